import Derived.Test.YtibpkhmiahamcaaGreatApp
import Derived.Test.YtibpkhmiahamcaaGreatTake1
set_option linter.unusedSimpArgs false
set_option linter.unusedVariables false
namespace Go.Proofs.YtibpkhmiahamcaaGreat
open Go.RowKit
theorem toHidC {P : Prop} (h : P) : Hid P := h
theorem lt_of_cellA {w : World} {a : Addr} {v : Value} (h : w.cell? a = some v) : a.block < w.heap.size := by
 by_cases hb : a.block < w.heap.size
 ·exact hb
 ·exfalso
  have hn : w.heap[a.block]? = none := by simp; omega
  simp [World.cell?, hn] at h
theorem own_new0 {W : World} {B base : Nat} {e : TypeId} (h : W.heap[B]? = some (.cells #[] e (0, 0))) (hb : base ≤ B) (size : Nat) : W.ownsRow base e size (.slice (some ⟨B, 0, none⟩) 0 0) 0 [] :=
 ⟨by simp, .inr ⟨B, 0, #[], rfl, hb, h, Nat.le_refl _, Nat.zero_le _, by simp, by simp⟩⟩
theorem rows_idx {α : Type} (f : α → List Value) (c : Nat) (hf : ∀ a, (f a).length = c) : ∀ (l : List α) (i r : Nat), r < c → (l.flatMap f)[i * c + r]? = l[i]?.bind fun a => (f a)[r]?
 | [], i, r, hr => by simp
 | a :: l, 0, r, hr => by
  simp only [List.flatMap_cons, Nat.zero_mul, Nat.zero_add]
  rw [List.getElem?_append_left (by rw [hf]; exact hr)]
  rfl
 | a :: l, i + 1, r, hr => by
  simp only [List.flatMap_cons]
  have h1 : (i + 1) * c + r = c + (i * c + r) := by rw [Nat.succ_mul]; omega
  rw [List.getElem?_append_right (by rw [hf, h1]; omega), hf, h1, Nat.add_sub_cancel_left, rows_idx f c hf l i r hr]
  rfl
theorem rows_len {α : Type} (f : α → List Value) (c : Nat) (hf : ∀ a, (f a).length = c) (l : List α) : (l.flatMap f).length = l.length * c := by
 induction l with
 | nil => simp
 | cons a l ih => rw [List.flatMap_cons, List.length_append, ih, hf, List.length_cons, Nat.succ_mul]; omega
theorem addr_add (b o j : Nat) : (⟨b, o, none⟩ : Addr).add j = ⟨b, o + j, none⟩ := by unfold Addr.add; split <;> simp_all
theorem src_of {α : Type} {w : World} {a : Option Addr} {l : List α} (f : α → List Value) (c : Nat) (hc : 0 < c) (hf : ∀ x, (f x).length = c) (h : ∀ i t, l[i]? = some t → ∃ b off, a = some ⟨b, off, none⟩ ∧ ∀ r v, (f t)[r]? = some v → w.cell? ⟨b, off + i * c + r, none⟩ = some v) :
  l.length = 0 ∨ ∃ ad, a = some ad ∧ ∀ j u, (l.flatMap f)[j]? = some u → w.cell? (ad.add j) = some u := by
 cases l with
 | nil => exact .inl rfl
 | cons t l =>
  obtain ⟨b, off, rfl, _⟩ := h 0 t rfl
  refine .inr ⟨_, rfl, fun j u hu => ?_⟩
  have hj : j = (j / c) * c + j % c := by rw [Nat.mul_comm]; exact (Nat.div_add_mod j c).symm
  have hr : j % c < c := Nat.mod_lt _ hc
  rw [hj, rows_idx f c hf _ _ _ hr] at hu
  cases hx : (t :: l)[j / c]? with
  | none => rw [hx] at hu; cases hu
  | some y =>
   rw [hx] at hu
   obtain ⟨b', off', e, hh⟩ := h _ y hx
   cases e
   rw [addr_add]
   have := hh _ u hu
   rw [show off + j = off + j / c * c + j % c by omega]
   exact this
theorem triRow_len (t : Tri) : (triRow t).length = 3 := rfl
theorem fldRow_len (t : Fld) : (fldRow t).length = 3 := rfl
theorem tris_src {w : World} {a : Option Addr} {n c : Nat} {l : List Tri} (h : TrisAt w (.slice a n c) l) : l.length = 0 ∨ ∃ ad, a = some ad ∧ ∀ j u, (triRows l)[j]? = some u → w.cell? (ad.add j) = some u := by
 obtain ⟨a', cap, e, _, _, h⟩ := h
 cases e
 refine src_of triRow 3 (by omega) triRow_len (fun i t ht => ?_)
 obtain ⟨b, off, e, h0, h1, h2⟩ := h i t ht
 refine ⟨b, off, e, fun r v hv => ?_⟩
 match r, hv with
 | 0, hv => cases hv; exact h0
 | 1, hv => cases hv; exact h1
 | 2, hv => cases hv; exact h2
 | r + 3, hv => simp [triRow] at hv
theorem flds_src {w : World} {a : Option Addr} {n c : Nat} {l : List Fld} (h : FldsAt w (.slice a n c) l) : l.length = 0 ∨ ∃ ad, a = some ad ∧ ∀ j u, (fldRows l)[j]? = some u → w.cell? (ad.add j) = some u := by
 obtain ⟨a', cap, e, _, _, h⟩ := h
 cases e
 refine src_of fldRow 3 (by omega) fldRow_len (fun i t ht => ?_)
 obtain ⟨b, off, e, h0, h1, h2⟩ := h i t ht
 refine ⟨b, off, e, fun r v hv => ?_⟩
 match r, hv with
 | 0, hv => cases hv; exact h0
 | 1, hv => cases hv; exact h1
 | 2, hv => cases hv; exact h2
 | r + 3, hv => simp [fldRow] at hv
theorem src_keep {w w' : World} {a : Option Addr} {n : Nat} {xs : List Value} (h : n = 0 ∨ ∃ ad, a = some ad ∧ ∀ j u, xs[j]? = some u → w.cell? (ad.add j) = some u) (hb : Below w.heap.size w w') : n = 0 ∨ ∃ ad, a = some ad ∧ ∀ j u, xs[j]? = some u → w'.cell? (ad.add j) = some u := by
 rcases h with h | ⟨ad, h1, h2⟩
 ·exact .inl h
 ·refine .inr ⟨ad, h1, fun j u hu => ?_⟩
  have hc := h2 j u hu
  exact (hb.cell (lt_of_cellA hc)).trans hc
theorem tri_one {l : List Tri} : ∀ u ∈ triRows l, u.oneCell' = true := fun u hu => by
 obtain ⟨t, _, ht⟩ := List.mem_flatMap.1 hu
 simp only [triRow, List.mem_cons, List.not_mem_nil, or_false] at ht
 rcases ht with rfl | rfl | rfl <;> rfl
theorem fld_one {l : List Fld} : ∀ u ∈ fldRows l, u.oneCell' = true := fun u hu => by
 obtain ⟨t, _, ht⟩ := List.mem_flatMap.1 hu
 simp only [fldRow, List.mem_cons, List.not_mem_nil, or_false] at ht
 rcases ht with rfl | rfl | rfl <;> rfl
theorem triRows_len (l : List Tri) : (triRows l).length = l.length * 3 := rows_len triRow 3 triRow_len l
theorem fldRows_len (l : List Fld) : (fldRows l).length = l.length * 3 := rows_len fldRow 3 fldRow_len l
theorem PairsNew.pushF {w3 w5 : World} {B : Nat} {o o' fv : Value} {l : List EntV} {e : Ent} {ob : Obj} (h : PairsNew w3 B o l) (hf : w3.ownsRow B 42 3 fv e.fs.length (fldRows e.fs)) (hnew : ∀ k, fv.ownBlock = some k → ∀ p ∈ l, p.2.ownBlock ≠ some k) (hown : w5.ownsRow B 40 2 o' (l.length + 1) (pairRows l ++ [.string e.name, fv])) (hg : (w3.alloc ob).grownBy w5 o.ownBlock) : PairsNew w5 B o' (l ++ [(e, fv)]) := by
 have hb1 : Below w3.heap.size w3 (w3.alloc ob) := (Below.refl _ _).alloc (Nat.le_refl _) ob
 refine ⟨?_, fun p hp => ?_, ?_⟩
 ·rw [pairRows_snoc, List.length_append]; exact hown
 ·rcases List.mem_append.1 hp with hp | hp
  ·exact ownsRow_farF (ownsRow_keep (h.flds p hp) hb1) hg (own_apart h.row (h.flds p hp) (by decide))
  ·simp at hp; subst hp
   exact ownsRow_farF (ownsRow_keep hf hb1) hg (own_apart h.row hf (by decide))
 ·rw [List.pairwise_append]
  exact ⟨h.apart, by simp, fun p hp q hq k hk => by simp at hq; subst hq; exact fun hk' => hnew k hk' p hp hk⟩
theorem BookNew.box {lo X : Nat} {w w' : World} {C : Array Value} {x y z : Value} {ks ps : List Tri} {es : List Ent} (h : BookNew lo w x y z ks ps es) (hX : w.heap[X]? = some (.cells C 29 (0, 0))) (hg : w.grownBy w' (some X)) : BookNew lo w' x y z ks ps es := by
 obtain ⟨h1, h2, l, h3, h4⟩ := h
 refine ⟨ownsRow_farF h1 hg (fun k hk e => own_other h1 hX (by decide) (by rw [← e]; exact hk.symm)), ownsRow_farF h2 hg (fun k hk e => own_other h2 hX (by decide) (by rw [← e]; exact hk.symm)), l, h3, ?_, fun p hp => ?_, h4.apart⟩
 ·exact ownsRow_farF h4.row hg (fun k hk e => own_other h4.row hX (by decide) (by rw [← e]; exact hk.symm))
 ·exact ownsRow_farF (h4.flds p hp) hg (fun k hk e => own_other (h4.flds p hp) hX (by decide) (by rw [← e]; exact hk.symm))
theorem ownsRow_sameM {W W' : World} {base : Nat} {e : TypeId} {size : Nat} {v : Value} {n : Nat} {xs : List Value} (h : W.ownsRow base e size v n xs) (hs : ∀ k, v.ownBlock = some k → k < W.heap.size → W'.heap[k]? = W.heap[k]?) : W'.ownsRow base e size v n xs := by
 refine ⟨h.1, ?_⟩
 rcases h.2 with h2 | ⟨g, cap, cur, hv, hb, hc, rest⟩
 ·exact .inl h2
 ·exact .inr ⟨g, cap, cur, hv, hb, (hs g (by rw [hv]; rfl) (Array.getElem?_eq_some_iff.1 hc).1).trans hc, rest⟩
open Go.RowKit
structure C1 (w wr : World) (A : Array Value) : Prop where
 below : Below w.heap.size w wr
 a : wr.heap[w.heap.size]? = some (.cells A 26 (0, 0))
 b : wr.heap[w.heap.size + 1]? = some (.cells #[.slice none 0 0, .slice none 0 0] 26 (0, 0))
theorem C1.z {w wr : World} {A : Array Value} (h : C1 w wr A) : w.heap.size + 2 ≤ wr.heap.size := (Array.getElem?_eq_some_iff.1 h.b).1
theorem C1.call {w wr wy : World} {A : Array Value} (h : C1 w wr A) (hb : Below wr.heap.size wr wy) : C1 w wy A := by
 have hz := h.z
 exact ⟨below_step h.below hb, (hb.block _ (by omega)).trans h.a, (hb.block _ (by omega)).trans h.b⟩
theorem C1.grown {w wr wy : World} {A : Array Value} {r : Option Nat} (h : C1 w wr A) (hg : wr.grownBy wy r) (hr : ∀ k, r = some k → w.heap.size + 2 ≤ k) : C1 w wy A := by
 have hz := h.z
 refine ⟨h.below.grown hg h.below.size (fun k e => by have := hr k e; omega), (hg.block _ (by omega) ?_).trans h.a, (hg.block _ (by omega) ?_).trans h.b⟩
 ·intro e; have := hr _ e.symm; omega
 ·intro e; have := hr _ e.symm; omega
theorem C1.start (w : World) (A : Array Value) : C1 w (((w.alloc (.cells A 26)).alloc (.cells #[.slice none 0 0, .slice none 0 0] 26)).drew) A := by
 have s1 : (w.alloc (.cells A 26)).heap.size = w.heap.size + 1 := by simp
 have h1 := heap_newF w (.cells A 26)
 have h2 := heap_newF (w.alloc (.cells A 26)) (.cells #[.slice none 0 0, .slice none 0 0] 26)
 rw [s1] at h2
 refine ⟨(((Below.refl _ _).alloc (Nat.le_refl _) _).alloc (by simp) _).drew, ?_, h2⟩
 exact (Below.heap_alloc _ _ _ (by omega)).trans h1
theorem C1.row {w wr : World} {A : Array Value} (h : C1 w wr A) (cs : Array Value) (j : Nat) : (wr.setRow (w.heap.size + 1) cs).cell? ⟨w.heap.size, j, none⟩ = A[j]? := by
 have e : (wr.setRow (w.heap.size + 1) cs).heap[w.heap.size]? = wr.heap[w.heap.size]? := setRow_other _ _ _ _ (by omega)
 rw [World.cell?_of_block (w := wr) e]
 simp [World.cell?, h.a]
theorem C1.cell {w wr : World} {A : Array Value} (h : C1 w wr A) (j : Nat) : wr.cell? ⟨w.heap.size, j, none⟩ = A[j]? := by simp [World.cell?, h.a]
set_option maxRecDepth 100000 in
set_option maxHeartbeats 6400000 in
theorem specL1Copy_any (vk vp : Value) (ks ps : List Tri) (w : World) (hk : TrisAt w vk ks) (hp : TrisAt w vp ps) (lk : ks.length ≤ 1048576) (lp : ps.length ≤ 1048576) :
  Calls Tryz.prog 61 #[.agg #[vk, vp]] w fun e w' => ∃ x y, e = .returned (.agg #[x, y]) ∧ w'.ownsRow (w.heap.size + 2) 107 3 x ks.length (triRows ks) ∧ w'.ownsRow (w.heap.size + 2) 109 3 y ps.length (triRows ps) ∧ Below w.heap.size w w' := by
 obtain ⟨i0, hi, hz0, hz1, hz2⟩ := info_parts infoKindC
 obtain ⟨i1, hj, hy0, hy1, hy2⟩ := info_parts infoPointC
 have HK := hk; have HP := hp
 obtain ⟨ak, ck, rfl, -, -, -⟩ := hk
 obtain ⟨ap, cp, rfl, -, -, -⟩ := hp
 have SK : Hid (∀ wx : World, Below w.heap.size w wx → (ks.length = 0 ∨ ∃ ad, ak = some ad ∧ ∀ j u, (triRows ks)[j]? = some u → wx.cell? (ad.add j) = some u)) := fun wx hx => src_keep (tris_src HK) hx
 have SP : Hid (∀ wx : World, Below w.heap.size w wx → (ps.length = 0 ∨ ∃ ad, ap = some ad ∧ ∀ j u, (triRows ps)[j]? = some u → wx.cell? (ad.add j) = some u)) := fun wx hx => src_keep (tris_src HP) hx
 have HC : Hid (C1 w _ #[.slice ak ks.length ck, .slice ap ps.length cp]) := C1.start w #[.slice ak ks.length ck, .slice ap ps.length cp]
 clear HK HP
 go_enter Tryz.func61, Tryz.ntmps61
 go_wp2
 refine wp_region_noPanic ?_
 refine wp_region_held_drew (S := fun w' => w'.cell? ⟨w.heap.size, 0, none⟩ = some (.slice ak ks.length ck) ∧ w'.cell? ⟨w.heap.size, 1, none⟩ = some (.slice ap ps.length cp)) (by kernel_rfl) ?_ (fun hHeld => ?_)
 ·exact ⟨HC.out.cell 0, HC.out.cell 1⟩
 generalize ((w.alloc (.cells #[.slice ak ks.length ck, .slice ap ps.length cp] 26)).alloc (.cells #[.slice none 0 0, .slice none 0 0] 26)).drew = W0 at *
 refine tkH 1 ?_ rfl ?_ (tkH 2 ?_ rfl ?_ (tkH 5 ?_ rfl ?_ (tkH 6 ?_ rfl ?_ ?_)))
 iterate 4 (rotate_left; focus (intro w hSw; (try dsimp only at hSw); simp only [Act.put, tkS]; go_simp; try with_reducible rfl))
 simp only [Act.put, tkS]
 clear hHeld
 refine rdH2 0 4 rfl rfl (fun K hK => ?_) (fun K hK => ?_)
 ·go_simp
  have hal : Below W0.heap.size W0 (W0.alloc (.cells #[] 107)) := (Below.refl _ _).alloc (Nat.le_refl _) _
  have HC2 : Hid (C1 w (W0.alloc (.cells #[] 107)) #[.slice ak ks.length ck, .slice ap ps.length cp]) := HC.out.call hal
  have RA : Hid ((W0.alloc (.cells #[] 107)).ownsRow (w.heap.size + 2) 107 3 (.slice (some ⟨W0.heap.size, 0, none⟩) 0 0) 0 []) := own_new0 (heap_newF W0 _) HC.out.z 3
  refine hK.out _ _ ⟨HC2.out.cell 0, HC2.out.cell 1⟩ (fun _ => ?_)
  clear hK K hal HC
  have HC := HC2
  clear HC2
  generalize W0.alloc (.cells #[] 107) = W1 at *
  refine rdH2 3 4 rfl rfl (fun K hK => ?_) (fun K hK => ?_)
  focus
   refine step_append_any _ rfl _ _ 23 rfl (w.heap.size + 2) 107 i0 _ 3 32 Tryz.underlying23 hi hz0 hz1 hz2 rfl (by decide) _ 0 [] rfl RA.out ak ks.length ck (triRows ks) rfl (SK.out _ HC.out.below) (triRows_len _) tri_one (by unfold maxLen; omega) (by omega) HC.out.z ?_
   intro va W2 hown hgrow hat
   rw [Nat.zero_add, List.nil_append] at hown
   have HC2 : Hid (C1 w W2 #[.slice ak ks.length ck, .slice ap ps.length cp]) := HC.out.grown hgrow (own_ge RA.out)
   refine hK.out _ _ ⟨HC2.out.cell 0, HC2.out.cell 1⟩ (fun _ => ?_)
   clear hK K hgrow hat HC RA
   have RA := toHidC hown
   obtain ⟨a1, c1, rfl⟩ := own_slice hown
   clear hown
   have HC := HC2
   clear HC2
   refine rdH 4 rfl (fun K hK => ?_)
   go_simp
   have hal : Below W2.heap.size W2 (W2.alloc (.cells #[] 109)) := (Below.refl _ _).alloc (Nat.le_refl _) _
   have HC2 : Hid (C1 w (W2.alloc (.cells #[] 109)) #[.slice ak ks.length ck, .slice ap ps.length cp]) := HC.out.call hal
   have RB : Hid ((W2.alloc (.cells #[] 109)).ownsRow (w.heap.size + 2) 109 3 (.slice (some ⟨W2.heap.size, 0, none⟩) 0 0) 0 []) := own_new0 (heap_newF W2 _) HC.out.z 3
   have RA2 := toHidC (ownsRow_keep RA.out hal)
   refine hK.out _ _ ⟨HC2.out.cell 0, HC2.out.cell 1⟩ (fun _ => ?_)
   clear hK K hal HC
   clear RA
   have RA := RA2
   clear RA2
   have HC := HC2
   clear HC2
   generalize W2.alloc (.cells #[] 109) = W3 at *
  rotate_left
  focus
   go_simp
   have hal : Below W1.heap.size W1 (W1.alloc (.cells #[] 109)) := (Below.refl _ _).alloc (Nat.le_refl _) _
   have HC2 : Hid (C1 w (W1.alloc (.cells #[] 109)) #[.slice ak ks.length ck, .slice ap ps.length cp]) := HC.out.call hal
   have RB : Hid ((W1.alloc (.cells #[] 109)).ownsRow (w.heap.size + 2) 109 3 (.slice (some ⟨W1.heap.size, 0, none⟩) 0 0) 0 []) := own_new0 (heap_newF W1 _) HC.out.z 3
   have RA2 := toHidC (ownsRow_keep RA.out hal)
   refine hK.out _ _ ⟨HC2.out.cell 0, HC2.out.cell 1⟩ (fun _ => ?_)
   clear hK K hal HC
   clear RA
   have RA := RA2
   clear RA2
   have HC := HC2
   clear HC2
   generalize W1.alloc (.cells #[] 109) = W2 at *
   refine rdH 3 rfl (fun K hK => ?_)
   refine step_append_any _ rfl _ _ 23 rfl (w.heap.size + 2) 107 i0 _ 3 32 Tryz.underlying23 hi hz0 hz1 hz2 rfl (by decide) _ 0 [] rfl RA.out ak ks.length ck (triRows ks) rfl (SK.out _ HC.out.below) (triRows_len _) tri_one (by unfold maxLen; omega) (by omega) HC.out.z ?_
   intro va W3 hown hgrow hat
   rw [Nat.zero_add, List.nil_append] at hown
   have HC2 : Hid (C1 w W3 #[.slice ak ks.length ck, .slice ap ps.length cp]) := HC.out.grown hgrow (own_ge RA.out)
   have RB2 := toHidC (ownsRow_farF RB.out hgrow (own_apart RA.out RB.out (by decide)))
   refine hK.out _ _ ⟨HC2.out.cell 0, HC2.out.cell 1⟩ (fun _ => ?_)
   clear hK K hgrow hat HC RA
   have RA := toHidC hown
   obtain ⟨a1, c1, rfl⟩ := own_slice hown
   clear hown
   clear RB
   have RB := RB2
   clear RB2
   have HC := HC2
   clear HC2
  rotate_left
  all_goals
   refine rdH 7 rfl (fun K hK => ?_)
   refine step_append_any _ rfl _ _ 24 rfl (w.heap.size + 2) 109 i1 _ 3 32 Tryz.underlying24 hj hy0 hy1 hy2 rfl (by decide) _ 0 [] rfl RB.out ap ps.length cp (triRows ps) rfl (SP.out _ HC.out.below) (triRows_len _) tri_one (by unfold maxLen; omega) (by omega) HC.out.z ?_
   intro va W4 hown hgrow hat
   rw [Nat.zero_add, List.nil_append] at hown
   have HC2 : Hid (C1 w W4 #[.slice ak ks.length ck, .slice ap ps.length cp]) := HC.out.grown hgrow (own_ge RB.out)
   have RA2 := toHidC (ownsRow_farF RA.out hgrow (own_apart RB.out RA.out (by decide)))
   refine hK.out _ _ ⟨HC2.out.cell 0, HC2.out.cell 1⟩ (fun _ => ?_)
   clear hK K hgrow hat HC RB
   have RB := toHidC hown
   obtain ⟨a2, c2, rfl⟩ := own_slice hown
   clear hown
   clear RA
   have RA := RA2
   clear RA2
   have HC := HC2
   clear HC2
   have hHeld : _ ∧ _ := ⟨HC.out.cell 0, HC.out.cell 1⟩
   refine tkH 8 ?_ rfl ?_ ?_; rotate_left
   ·intro w hSw; (try dsimp only at hSw); go_simp; try with_reducible rfl
   simp only [Act.put, tkS]
   clear hHeld
   refine rdH 9 rfl (fun K hK => ?_)
   have hrow := HC.out.b
   refine step_store_rowC rfl 26 _ _ rfl (w.heap.size + 1) #[.slice a1 ks.length c1, .slice a2 ps.length c2] rfl rfl 26 _ hrow (by kernel_rfl) rfl (by simp [Value.oneCell']) ?_
   refine hK.out _ _ ⟨HC.out.row _ 0, HC.out.row _ 1⟩ (fun _ => ?_)
   clear hK K
   refine wpAnyH_done (by kernel_rfl) ?_ _
   refine NoPanic.normal ?_
   go_wp2
   exact bodyPost_ret (v := .agg #[.slice a1 ks.length c1, .slice a2 ps.length c2]) (by simp [results, Tryz.results61, go_sem, cell_setRow_same _ _ _ _ _ _ _ hrow]) rfl ⟨_, _, rfl, ownsRow_farF RA.out (grown_rowF _ _ _) (fun k hk e => by have := own_ge RA.out k hk; injection e; omega), ownsRow_farF RB.out (grown_rowF _ _ _) (fun k hk e => by have := own_ge RB.out k hk; injection e; omega), below_setRow HC.out.below (by omega) _⟩
 ·go_simp
  have hal : Below W0.heap.size W0 (W0.alloc (.cells #[] 109)) := (Below.refl _ _).alloc (Nat.le_refl _) _
  have HC2 : Hid (C1 w (W0.alloc (.cells #[] 109)) #[.slice ak ks.length ck, .slice ap ps.length cp]) := HC.out.call hal
  have RB : Hid ((W0.alloc (.cells #[] 109)).ownsRow (w.heap.size + 2) 109 3 (.slice (some ⟨W0.heap.size, 0, none⟩) 0 0) 0 []) := own_new0 (heap_newF W0 _) HC.out.z 3
  refine hK.out _ _ ⟨HC2.out.cell 0, HC2.out.cell 1⟩ (fun _ => ?_)
  clear hK K hal HC
  have HC := HC2
  clear HC2
  generalize W0.alloc (.cells #[] 109) = W1 at *
  refine rdH 0 rfl (fun K hK => ?_)
  go_simp
  have hal : Below W1.heap.size W1 (W1.alloc (.cells #[] 107)) := (Below.refl _ _).alloc (Nat.le_refl _) _
  have HC2 : Hid (C1 w (W1.alloc (.cells #[] 107)) #[.slice ak ks.length ck, .slice ap ps.length cp]) := HC.out.call hal
  have RA : Hid ((W1.alloc (.cells #[] 107)).ownsRow (w.heap.size + 2) 107 3 (.slice (some ⟨W1.heap.size, 0, none⟩) 0 0) 0 []) := own_new0 (heap_newF W1 _) HC.out.z 3
  have RB2 := toHidC (ownsRow_keep RB.out hal)
  refine hK.out _ _ ⟨HC2.out.cell 0, HC2.out.cell 1⟩ (fun _ => ?_)
  clear hK K hal HC
  clear RB
  have RB := RB2
  clear RB2
  have HC := HC2
  clear HC2
  generalize W1.alloc (.cells #[] 107) = W2 at *
  refine rdH 3 rfl (fun K hK => ?_)
  refine step_append_any _ rfl _ _ 23 rfl (w.heap.size + 2) 107 i0 _ 3 32 Tryz.underlying23 hi hz0 hz1 hz2 rfl (by decide) _ 0 [] rfl RA.out ak ks.length ck (triRows ks) rfl (SK.out _ HC.out.below) (triRows_len _) tri_one (by unfold maxLen; omega) (by omega) HC.out.z ?_
  intro va W3 hown hgrow hat
  rw [Nat.zero_add, List.nil_append] at hown
  have HC2 : Hid (C1 w W3 #[.slice ak ks.length ck, .slice ap ps.length cp]) := HC.out.grown hgrow (own_ge RA.out)
  have RB2 := toHidC (ownsRow_farF RB.out hgrow (own_apart RA.out RB.out (by decide)))
  refine hK.out _ _ ⟨HC2.out.cell 0, HC2.out.cell 1⟩ (fun _ => ?_)
  clear hK K hgrow hat HC RA
  have RA := toHidC hown
  obtain ⟨a1, c1, rfl⟩ := own_slice hown
  clear hown
  clear RB
  have RB := RB2
  clear RB2
  have HC := HC2
  clear HC2
  refine rdH 7 rfl (fun K hK => ?_)
  refine step_append_any _ rfl _ _ 24 rfl (w.heap.size + 2) 109 i1 _ 3 32 Tryz.underlying24 hj hy0 hy1 hy2 rfl (by decide) _ 0 [] rfl RB.out ap ps.length cp (triRows ps) rfl (SP.out _ HC.out.below) (triRows_len _) tri_one (by unfold maxLen; omega) (by omega) HC.out.z ?_
  intro va W4 hown hgrow hat
  rw [Nat.zero_add, List.nil_append] at hown
  have HC2 : Hid (C1 w W4 #[.slice ak ks.length ck, .slice ap ps.length cp]) := HC.out.grown hgrow (own_ge RB.out)
  have RA2 := toHidC (ownsRow_farF RA.out hgrow (own_apart RB.out RA.out (by decide)))
  refine hK.out _ _ ⟨HC2.out.cell 0, HC2.out.cell 1⟩ (fun _ => ?_)
  clear hK K hgrow hat HC RB
  have RB := toHidC hown
  obtain ⟨a2, c2, rfl⟩ := own_slice hown
  clear hown
  clear RA
  have RA := RA2
  clear RA2
  have HC := HC2
  clear HC2
  have hHeld : _ ∧ _ := ⟨HC.out.cell 0, HC.out.cell 1⟩
  refine tkH 8 ?_ rfl ?_ ?_; rotate_left
  ·intro w hSw; (try dsimp only at hSw); go_simp; try with_reducible rfl
  simp only [Act.put, tkS]
  clear hHeld
  refine rdH 9 rfl (fun K hK => ?_)
  have hrow := HC.out.b
  refine step_store_rowC rfl 26 _ _ rfl (w.heap.size + 1) #[.slice a1 ks.length c1, .slice a2 ps.length c2] rfl rfl 26 _ hrow (by kernel_rfl) rfl (by simp [Value.oneCell']) ?_
  refine hK.out _ _ ⟨HC.out.row _ 0, HC.out.row _ 1⟩ (fun _ => ?_)
  clear hK K
  refine wpAnyH_done (by kernel_rfl) ?_ _
  refine NoPanic.normal ?_
  go_wp2
  exact bodyPost_ret (v := .agg #[.slice a1 ks.length c1, .slice a2 ps.length c2]) (by simp [results, Tryz.results61, go_sem, cell_setRow_same _ _ _ _ _ _ _ hrow]) rfl ⟨_, _, rfl, ownsRow_farF RA.out (grown_rowF _ _ _) (fun k hk e => by have := own_ge RA.out k hk; injection e; omega), ownsRow_farF RB.out (grown_rowF _ _ _) (fun k hk e => by have := own_ge RB.out k hk; injection e; omega), below_setRow HC.out.below (by omega) _⟩
open Go.RowKit
theorem fat_succ (g : Fld) (l : List Fld) (i : Nat) : fat (g :: l) (i + 1) = fat l i := by simp [fat]
theorem putF_hit : ∀ (fs : List Fld) (f : Fld) (j : Nat), j < fs.length → (∀ i, i < j → (fat fs i).what < f.what) → (fat fs j).what = f.what → putF fs f = bif latF f (fat fs j) then fs.set j f else fs
 | [], f, j, hj, _, _ => by simp at hj
 | g :: l, f, 0, hj, hl, he => by
  have e0 : fat (g :: l) 0 = g := rfl
  rw [e0] at he ⊢
  rw [putF, if_neg (by omega), if_pos he]
  cases latF f g <;> rfl
 | g :: l, f, j + 1, hj, hl, he => by
  have h0 := hl 0 (by omega)
  have e0 : fat (g :: l) 0 = g := rfl
  rw [e0] at h0
  rw [fat_succ] at he ⊢
  rw [putF, if_pos h0, putF_hit l f j (by simpa using hj) (fun i hi => by have := hl (i + 1) (by omega); rwa [fat_succ] at this) he]
  cases latF f (fat l j) <;> rfl
theorem putF_in : ∀ (fs : List Fld) (f : Fld) (j : Nat), j ≤ fs.length → (∀ i, i < j → (fat fs i).what < f.what) → (j < fs.length → f.what < (fat fs j).what) → putF fs f = fs.take j ++ f :: fs.drop j
 | [], f, j, hj, _, _ => by
  have : j = 0 := by simpa using hj
  subst this; rfl
 | g :: l, f, 0, hj, hl, he => by
  have h0 := he (by simp)
  have e0 : fat (g :: l) 0 = g := rfl
  rw [e0] at h0
  rw [putF, if_neg (by omega), if_neg (by omega)]
  rfl
 | g :: l, f, j + 1, hj, hl, he => by
  have h0 := hl 0 (by omega)
  have e0 : fat (g :: l) 0 = g := rfl
  rw [e0] at h0
  rw [putF, if_pos h0, putF_in l f j (by simpa using hj) (fun i hi => by have := hl (i + 1) (by omega); rwa [fat_succ] at this) (fun hlt => by have := he (by simpa using hlt); rwa [fat_succ] at this)]
  rfl
theorem putF_len (fs : List Fld) (f : Fld) : (putF fs f).length ≤ fs.length + 1 := by
 induction fs with
 | nil => simp [putF]
 | cons g l ih =>
  rw [putF]
  split
  ·simp; omega
  ·split
   ·split <;> simp
   ·simp
theorem fldRows_app (a b : List Fld) : fldRows (a ++ b) = fldRows a ++ fldRows b := by simp [fldRows]
theorem fldRows_cons (a : Fld) (b : List Fld) : fldRows (a :: b) = fldRow a ++ fldRows b := by simp [fldRows]
theorem fldRows_set : ∀ (fs : List Fld) (f : Fld) (j : Nat), j < fs.length → fldRows (fs.set j f) = (((fldRows fs).set (j * 3) (.int .i64 f.what)).set (j * 3 + 1) (.int .i64 f.num)).set (j * 3 + 2) (.string f.v)
 | [], f, j, hj => by simp at hj
 | g :: l, f, 0, hj => by simp [fldRows, fldRow]
 | g :: l, f, j + 1, hj => by
  rw [List.set_cons_succ, fldRows_cons, fldRows_cons, fldRows_set l f j (by simpa using hj)]
  have h3 : (j + 1) * 3 = 3 + j * 3 := by omega
  have h4 : ∀ (x : List Value) (p : Nat) (v : Value), (fldRow g ++ x).set (3 + p) v = fldRow g ++ x.set p v := fun x p v => by
   rw [List.set_append_right _ _ (by simp [fldRow])]
   simp [fldRow]
  rw [h3, h4, Nat.add_assoc, h4, Nat.add_assoc, h4]
theorem own_set1 {w : World} {B : Nat} {e : TypeId} {size g n cap m : Nat} {xs : List Value} (h : w.ownsRow B e size (.slice (some ⟨g, 0, none⟩) n cap) m xs) (p : Nat) (v : Value) : (w.setCell ⟨g, p, none⟩ v).ownsRow B e size (.slice (some ⟨g, 0, none⟩) n cap) m (xs.set p v) := by
 obtain ⟨h1, h2⟩ := h
 rcases h2 with ⟨h2, _⟩ | ⟨g', cap', cur, hv, hB, hb, hn, hc, hs, ht⟩
 ·cases h2
 ·cases hv
  refine ⟨by simpa using h1, .inr ⟨g, cap, cur.setIfInBounds p v, rfl, hB, ?_, hn, hc, by simpa using hs, ?_⟩⟩
  ·rw [setCell_eq_setRow _ _ _ _ _ _ _ hb]; exact setRow_heap _ _ _ _ _ _ hb
  ·rw [Array.toList_setIfInBounds, List.take_set, ht]
theorem grownF_trans {w w1 w2 : World} {r : Option Nat} (h : w.grownBy w1 r) (k : w1.grownBy w2 r) : w.grownBy w2 r :=
 ⟨k.1.trans h.1, k.2.trans h.2, k.3.trans h.3, Nat.le_trans h.4 k.4, fun j hj hr => (k.5 j (Nat.lt_of_lt_of_le hj h.4) hr).trans (h.5 j hj hr)⟩
theorem grownF_below {w w' : World} (h : Below w.heap.size w w') (r : Option Nat) : w.grownBy w' r := ⟨h.1, h.2, h.3, h.4, fun k hk _ => h.5 k hk⟩
theorem own_fset {w : World} {lo g n cap : Nat} {fs : List Fld} {j : Nat} (f : Fld) (h : w.ownsRow lo 42 3 (.slice (some ⟨g, 0, none⟩) n cap) fs.length (fldRows fs)) (hj : j < fs.length) :
  (w.setCells g (j * 3) (fldRow f)).ownsRow lo 42 3 (.slice (some ⟨g, 0, none⟩) n cap) (fs.set j f).length (fldRows (fs.set j f)) ∧ w.grownBy (w.setCells g (j * 3) (fldRow f)) (some g) := by
 have e : w.setCells g (j * 3) (fldRow f) = ((w.setCell ⟨g, j * 3, none⟩ (.int .i64 f.what)).setCell ⟨g, j * 3 + 1, none⟩ (.int .i64 f.num)).setCell ⟨g, j * 3 + 2, none⟩ (.string f.v) := rfl
 rw [e]
 refine ⟨?_, grownF_trans (grownF_trans (grown_setF _ _ _ _) (grown_setF _ _ _ _)) (grown_setF _ _ _ _)⟩
 rw [fldRows_set fs f j hj, List.length_set]
 exact own_set1 (own_set1 (own_set1 h _ _) _ _) _ _
theorem own_fcells {w : World} {lo : Nat} {v : Value} {fs : List Fld} {j : Nat} (h : w.ownsRow lo 42 3 v fs.length (fldRows fs)) (hj : j < fs.length) :
  ∃ g cap, v = .slice (some ⟨g, 0, none⟩) fs.length cap ∧ lo ≤ g ∧ g < w.heap.size ∧ fs.length ≤ cap ∧ cap ≤ maxLen ∧ w.cell? ⟨g, j * 3, none⟩ = some (.int .i64 (fat fs j).what) ∧ w.cell? ⟨g, j * 3 + 1, none⟩ = some (.int .i64 (fat fs j).num) ∧ w.cell? ⟨g, j * 3 + 2, none⟩ = some (.string (fat fs j).v) ∧ w.there g (j * 3) 3 := by
 obtain ⟨h1, h2⟩ := h
 rcases h2 with ⟨_, h2⟩ | ⟨g, cap, cur, rfl, hB, hb, hn, hc, hs, ht⟩
 ·omega
 ·have hx : ∀ r, r < 3 → cur.toList[j * 3 + r]? = (fldRow (fat fs j))[r]? := fun r hr => by
   have e1 : (cur.toList.take (fs.length * 3))[j * 3 + r]? = cur.toList[j * 3 + r]? := by rw [List.getElem?_take, if_pos (by omega)]
   rw [← e1, ht]
   unfold fldRows
   rw [rows_idx fldRow 3 fldRow_len fs j r hr, fat_get hj]
   rfl
  have x0 := hx 0 (by omega)
  have x1 := hx 1 (by omega)
  have x2 := hx 2 (by omega)
  simp only [Nat.add_zero] at x0
  refine ⟨g, cap, rfl, hB, (Array.getElem?_eq_some_iff.1 hb).1, hn, hc, ?_, ?_, ?_, fun q hq => ?_⟩
  ·simp only [World.cell?, hb, Option.isSome_none, Bool.false_eq_true, if_false]; simpa [fldRow] using x0
  ·simp only [World.cell?, hb, Option.isSome_none, Bool.false_eq_true, if_false]; simpa [fldRow] using x1
  ·simp only [World.cell?, hb, Option.isSome_none, Bool.false_eq_true, if_false]; simpa [fldRow] using x2
  ·have hq' : j * 3 + q < cur.size := by rw [hs]; omega
   simp [World.cell?, World.frozen?, hb, hq']
end Go.Proofs.YtibpkhmiahamcaaGreat
