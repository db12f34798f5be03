
/-
  impl: the news.
-/
import Derived.Test.YtfjblenkcfdbiaaGreatNews4
import Derived.Test.YtfjblenkcfdbiaaGreatRnd
import Derived.Test.YtfjblenkcfdbiaaGreatNewsS2
namespace Go.Proofs.YtfjblenkcfdbiaaGreat
open Go.RowKit Go.Shelf
set_option linter.unusedSimpArgs false
set_option linter.unusedVariables false
attribute [local go_sem] Oper.semAt_some

theorem ownsRow_own {W W' : World} {row : Option Nat} {base : Nat} {e : TypeId} {size : Nat} {v : Value} {n : Nat} {xs : List Value} (h : W.ownsRow base e size v n xs) (hg : W.grownBy W' row) (hr : ∀ r, row = some r → ∃ o : Obj, W.heap[r]? = some o ∧ o.isCells = false) : W'.ownsRow base e size v n xs := by
  refine ⟨h.1, ?_⟩
  rcases h.2 with h2 | ⟨g, cap, cur, hv, hb, hc, rest⟩
  · exact .inl h2
  · refine .inr ⟨g, cap, cur, hv, hb, ?_, rest⟩
    refine (hg.block g (Array.getElem?_eq_some_iff.1 hc).1 ?_).trans hc
    intro e'
    obtain ⟨o, ho, hcc⟩ := hr g e'.symm
    rw [hc] at ho; cases ho; cases hcc
theorem ownsRow_base {W : World} {base base' : Nat} {e : TypeId} {size : Nat} {v : Value} {n : Nat} {xs : List Value} (h : W.ownsRow base e size v n xs) (hb : base' ≤ base) : W.ownsRow base' e size v n xs := by
  refine ⟨h.1, ?_⟩
  rcases h.2 with h2 | ⟨g, cap, cur, hv, hb', hc, rest⟩
  · exact .inl h2
  · exact .inr ⟨g, cap, cur, hv, by omega, hc, rest⟩
theorem chgAt_own {W W' : World} {row : Option Nat} {b o : Nat} {c : Chg} (h : ChgAt W b o c) (hg : W.grownBy W' row) (hr : ∀ r, row = some r → ∃ o : Obj, W.heap[r]? = some o ∧ o.isCells = false) : ChgAt W' b o c := by
  obtain ⟨o', ho, hc⟩ := cells_of_cell h.1
  have hne : some b ≠ row := fun e => by
    obtain ⟨o2, h2, h3⟩ := hr b e.symm
    have ho' : W.heap[b]? = some o' := ho
    rw [ho'] at h2; cases h2; rw [hc] at h3; cases h3
  have hb := hg.block b (lt_of_cell h.1) hne
  exact ⟨(World.cell?_of_block hb).trans h.1, (World.cell?_of_block hb).trans h.2.1, (World.cell?_of_block hb).trans h.2.2.1, (World.cell?_of_block hb).trans h.2.2.2⟩
theorem chgAt_call {W W' : World} {b o : Nat} {c : Chg} (h : ChgAt W b o c) (hb : Below W.heap.size W W') : ChgAt W' b o c := h.keep hb (Nat.le_refl _)

/-- While the news are gathered. -/
def NewsI (w : World) (Bn n₂ : Nat) (cs : List Chg) (W : World) : Prop := ∃ v, (Go.Boxed W Bn 50 v ∧ ChgsNew W n₂ v cs) ∧ Below w.heap.size w W ∧ Bn < n₂ ∧ w.heap.size ≤ Bn ∧ n₂ ≤ W.heap.size
theorem NewsI.own {w : World} {Bn n₂ : Nat} {cs : List Chg} {W W' : World} {row : Option Nat} {B : Nat} (h : NewsI w Bn n₂ cs W) (hg : W.grownBy W' row) (hr : ∀ r, row = some r → B ≤ r ∧ ∃ o : Obj, W.heap[r]? = some o ∧ o.isCells = false) (hB : w.heap.size ≤ B) : NewsI w Bn n₂ cs W' := by
  obtain ⟨v, ⟨h1, h2⟩, h3, h4, h5, h6⟩ := h
  refine ⟨v, ⟨?_, ownsRow_own h2 hg (fun r e => (hr r e).2)⟩, ?_, h4, h5, Nat.le_trans h6 hg.size⟩
  · exact Go.boxed_own Bn _ (fun _ : Unit => v) () W W' row h1 hg (fun r e => (hr r e).2)
  · exact h3.grown hg h3.size (fun k e => Nat.le_trans hB (hr k e).1)
theorem NewsI.call {w : World} {Bn n₂ : Nat} {cs : List Chg} {W W' : World} (h : NewsI w Bn n₂ cs W) (hb : Below W.heap.size W W') : NewsI w Bn n₂ cs W' := by
  obtain ⟨v, ⟨h1, h2⟩, h3, h4, h5, h6⟩ := h
  exact ⟨v, ⟨(hb.block _ h1.lt).trans h1, ownsRow_keep h2 hb⟩, below_step h3 hb, h4, h5, Nat.le_trans h6 hb.size⟩

theorem ownsRow_far {W W' : World} {row : Option Nat} {base : Nat} {e : TypeId} {size : Nat} {v : Value} {n : Nat} {xs : List Value} (h : W.ownsRow base e size v n xs) (hg : W.grownBy W' row) (hr : ∀ k, v.ownBlock = some k → some k ≠ row) : W'.ownsRow base e size v n xs := by
  refine ⟨h.1, ?_⟩
  rcases h.2 with h2 | ⟨g, cap, cur, hv, hb, hc, rest⟩
  · exact .inl h2
  · refine .inr ⟨g, cap, cur, hv, hb, ?_, rest⟩
    exact (hg.block g (Array.getElem?_eq_some_iff.1 hc).1 (hr g (by rw [hv]; rfl))).trans hc
theorem below_keeps {W W' : World} (h : Below W.heap.size W W') (B : Nat) : KeepsFrom B W W' := ⟨h.size, fun k o _ hk _ => (h.block k (Array.getElem?_eq_some_iff.1 hk).1).trans hk⟩
theorem OnlyN.normal {K : Act → World → Prop} {a : Act} {w : World} (h : K a w) : OnlyN K .normal a w := h
theorem newsI_more {w W4 w6 : World} {Bn n₁ n₂ : Nat} {v : Value} {cs : List Chg} {c : Chg} {o : Obj} {g cap : Nat} (hbox : Go.Boxed W4 Bn 50 v) (hown : ChgsNew W4 n₂ v cs) (h3 : Below w.heap.size w W4) (h4 : Bn < n₁) (h5 : n₁ ≤ n₂) (h6 : w.heap.size ≤ Bn) (h7 : n₂ ≤ W4.heap.size)
    (hown6 : w6.ownsRow n₂ 43 4 (.slice (some ⟨g, 0, none⟩) (cs.length + 1) cap) (cs.length + 1) (chgRows cs ++ chgRow c)) (hg : (W4.alloc o).grownBy w6 v.ownBlock) (B : Nat) :
    NewsI w Bn n₂ (cs ++ [c]) (w6.setCell ⟨Bn, 0, none⟩ (.slice (some ⟨g, 0, none⟩) (cs.length + 1) cap)) ∧ KeepsFrom B W4 (w6.setCell ⟨Bn, 0, none⟩ (.slice (some ⟨g, 0, none⟩) (cs.length + 1) cap)) ∧ KeepR n₁ n₂ W4 (w6.setCell ⟨Bn, 0, none⟩ (.slice (some ⟨g, 0, none⟩) (cs.length + 1) cap)) := by
  have hge : ∀ k, v.ownBlock = some k → n₂ ≤ k := own_ge hown
  have hbn : some Bn ≠ v.ownBlock := fun e => by have := hge Bn e.symm; omega
  have hb6 : Go.Boxed w6 Bn 50 v := Go.Boxed.kept (hbox.alloc _) hg hbn
  have hs6 : W4.heap.size ≤ w6.heap.size := by have := hg.size; simp at this; omega
  refine ⟨⟨_, ⟨hb6.set _, ?_⟩, ?_, by omega, h6, by simp; omega⟩, ?_, ?_⟩
  · unfold ChgsNew
    rw [chgRows_snoc, List.length_append]
    refine ownsRow_far hown6 (grownBy_setCell' w6 Bn _) (fun k hk => ?_)
    have := own_ge hown6 k hk
    intro e; cases e; omega
  · exact ((h3.alloc h3.size o).grown hg (by simp; have := h3.size; omega) (fun k e => by have := hge k e; omega)).setCell (p := ⟨Bn, 0, none⟩) h6 _
  · refine ((KeepsOthers.alloc W4 o).trans ((KeepsOthers.of_grownBy hg ?_).trans (KeepsOthers.setCell _ _ _))).from B
    intro j ob hj hob
    rcases hown.2 with ⟨rfl, _⟩ | ⟨g', cap', cur', rfl, hg', hc', _⟩
    · cases hj
    · cases hj
      rw [Below.heap_alloc _ _ _ (Array.getElem?_eq_some_iff.1 hc').1, hc'] at hob
      cases hob; rfl
  · intro k k1 k2
    have e1 : (w6.setCell ⟨Bn, 0, none⟩ (.slice (some ⟨g, 0, none⟩) (cs.length + 1) cap)).heap[k]? = w6.heap[k]? := (grownBy_setCell' w6 Bn _).block k (by omega) (fun e => by cases e; omega)
    rw [e1, hg.block k (by simp; omega) (fun e => by have := hge k e.symm; omega)]
    exact Below.heap_alloc _ _ _ (by omega)
theorem pick_true {y s : Chg} (h : latC s y = true) : pick (y, s) = some s := by unfold pick; rw [if_pos h]
theorem pick_false {y s : Chg} (h : latC s y = false) : pick (y, s) = none := by unfold pick; rw [if_neg (by simp [h])]

set_option maxRecDepth 100000 in
set_option maxHeartbeats 6400000 in
theorem implNews_any (vk vp ve uk up ue : Value) (ks ps ks' ps' : List Tri) (es es' : List Ent) (w : World) (hA : BookAt w vk vp ve ks ps es) (hB : BookAt w uk up ue ks' ps' es') (nA : BNames ks ps es) (nB : BNames ks' ps' es') (sA : BSmall ks ps es) (sB : BSmall ks' ps' es')
    (hsz : sumN (fun e => e.fs.length) es ≤ 1048576) (hsz' : sumN (fun e => e.fs.length) es' ≤ 1048576) (hel : es.length ≤ 1048576) (hel' : es'.length ≤ 1048576) (hsm : ∀ c ∈ chgsOf es', c.f.size ≤ 1048576 ∧ c.v.size ≤ 1048576) :
    Calls Tryz.prog 18 #[.agg #[vk, vp, ve], .agg #[uk, up, ue]] w fun e w' => ∃ v, e = .returned v ∧ ChgsNew w' w.heap.size v (bif bookB ks ps es && bookB ks' ps' es' then (chgsOf es').filter fun c => !hasS es c else []) ∧ Below w.heap.size w w' := by
  obtain ⟨i0, hi, hz0, hz1, hz2⟩ := info_parts infoChange
  have HA : Hid (BookAt w vk vp ve ks ps es) := hA
  have HB : Hid (BookAt w uk up ue ks' ps' es') := hB
  have NN : Hid (BNames ks ps es ∧ BNames ks' ps' es') := ⟨nA, nB⟩
  have SS : Hid (BSmall ks ps es ∧ BSmall ks' ps' es') := ⟨sA, sB⟩
  have HSM : Hid (∀ c ∈ chgsOf es', c.f.size ≤ 1048576 ∧ c.v.size ≤ 1048576) := hsm
  obtain ⟨⟨ak, ck, rfl, -, -, -⟩, ⟨ap, cp, rfl, -, -, -⟩, ⟨ae, ce, rfl, -, -, -⟩⟩ := hA
  obtain ⟨⟨ak', ck', rfl, -, -, -⟩, ⟨ap', cp', rfl, -, -, -⟩, ⟨ae', ce', rfl, -, -, -⟩⟩ := hB
  clear nA nB sA sB hsm
  have HN0 : Hid (NewsAt w ((w.alloc (.cells #[.slice ak ks.length ck, .slice ap ps.length cp, .slice ae es.length ce] 39)).alloc (.cells #[.slice ak' ks'.length ck', .slice ap' ps'.length cp', .slice ae' es'.length ce'] 39)) #[.slice ak ks.length ck, .slice ap ps.length cp, .slice ae es.length ce] #[.slice ak' ks'.length ck', .slice ap' ps'.length cp', .slice ae' es'.length ce'] (.slice none 0 0) []) := by
    have s1 : (w.alloc (.cells #[.slice ak ks.length ck, .slice ap ps.length cp, .slice ae es.length ce] 39)).heap.size = w.heap.size + 1 := by simp
    have h2 := heap_new (w.alloc (.cells #[.slice ak ks.length ck, .slice ap ps.length cp, .slice ae es.length ce] 39)) (.cells #[.slice ak' ks'.length ck', .slice ap' ps'.length cp', .slice ae' es'.length ce'] 39)
    rw [s1] at h2
    exact ⟨((Below.refl _ _).alloc (Nat.le_refl _) _).alloc (by simp) _, (Below.heap_alloc _ _ _ (by omega)).trans (heap_new w _), h2, rfl, .inl ⟨rfl, rfl⟩⟩
  have HR0 : Hid (bookB ks ps es = false → (bif bookB ks ps es && bookB ks' ps' es' then (chgsOf es').filter fun c => !hasS es c else []) = []) := fun h => by rw [h]; rfl
  have HR1 : Hid (bookB ks' ps' es' = false → (bif bookB ks ps es && bookB ks' ps' es' then (chgsOf es').filter fun c => !hasS es c else []) = []) := fun h => by rw [h, Bool.and_false]; rfl
  have HR2 : Hid (bookB ks ps es = true → bookB ks' ps' es' = true → (bif bookB ks ps es && bookB ks' ps' es' then (chgsOf es').filter fun c => !hasS es c else []) = (pairsW (chgsOf es) (chgsOf es')).filterMap pick) := fun h h' => by rw [h, h']; exact (news_eq h h').symm
  generalize (bif bookB ks ps es && bookB ks' ps' es' then (chgsOf es').filter fun c => !hasS es c else []) = R at *
  refine (callsIn_wide (n := 9)).1 ?_
  refine callsIn_of_wp_marks Tryz.func18 rfl trivial ?_ rfl
  simp only [Tryz.ntmps18, List.size_toArray, List.length_cons, List.length_nil, Nat.reduceAdd, Nat.reduceSub, Array.replicate_succ, Array.replicate_zero, List.push_toArray, List.append_toArray, List.nil_append, List.cons_append]
  gi_wp2
  refine ⟨trivial, (callsIn_wide.2 (bookOk_any _ _ _ ks ps es _ (HA.out.keep HN0.out.below) NN.out.1 SS.out.1)).mono ?_⟩
  rintro e w1 ⟨rfl, hb1⟩
  have HN1 : Hid (NewsAt w w1 #[.slice ak ks.length ck, .slice ap ps.length cp, .slice ae es.length ce] #[.slice ak' ks'.length ck', .slice ap' ps'.length cp', .slice ae' es'.length ce'] (.slice none 0 0) []) := HN0.out.call hb1
  clear HN0 hb1
  have z0 : w1.cell? ⟨w.heap.size + 1, 0, none⟩ = some (.slice ak' ks'.length ck') := HN1.out.cellB 0
  have z1 : w1.cell? ⟨w.heap.size + 1, 1, none⟩ = some (.slice ap' ps'.length cp') := HN1.out.cellB 1
  have z2 : w1.cell? ⟨w.heap.size + 1, 2, none⟩ = some (.slice ae' es'.length ce') := HN1.out.cellB 2
  cases hb1 : bookB ks ps es
  · have HRR : Hid (R = []) := HR0.out hb1
    clear hb1
    gi_wp2
    refine ⟨trivial, ?_⟩
    gi_wp2
    exact ⟨_, results_tmp rfl _ _ _, _, rfl, by rw [HRR.out]; exact HN1.out.own, HN1.out.below⟩
  gi_wp2
  refine ⟨trivial, (callsIn_wide.2 (bookOk_any _ _ _ ks' ps' es' _ (HB.out.keep HN1.out.below) NN.out.2 SS.out.2)).mono ?_⟩
  rintro e w2 ⟨rfl, hb2⟩
  have HN2 : Hid (NewsAt w w2 #[.slice ak ks.length ck, .slice ap ps.length cp, .slice ae es.length ce] #[.slice ak' ks'.length ck', .slice ap' ps'.length cp', .slice ae' es'.length ce'] (.slice none 0 0) []) := HN1.out.call hb2
  clear HN1 hb2 z0 z1 z2
  cases hb2 : bookB ks' ps' es'
  · have HRR : Hid (R = []) := HR1.out hb2
    clear hb1 hb2
    gi_wp2
    exact ⟨_, results_tmp rfl _ _ _, _, rfl, by rw [HRR.out]; exact HN2.out.own, HN2.out.below⟩
  have HRR : Hid (R = (pairsW (chgsOf es) (chgsOf es')).filterMap pick) := HR2.out hb1 hb2
  clear hb1 hb2 HR0 HR1 HR2
  have HEE : Hid (EntsAt w (.slice ae es.length ce) es ∧ EntsAt w (.slice ae' es'.length ce') es') := ⟨HA.out.e, HB.out.e⟩
  clear HA HB NN SS
  gi_wp2
  have hsn : (w2.alloc (.cells #[.slice none 0 0] 50)).heap.size = w2.heap.size + 1 := by simp
  have BX0 : Hid (Go.Boxed (w2.alloc (.cells #[.slice none 0 0] 50)) w2.heap.size 50 (.slice none 0 0)) := Go.Boxed.new _ _ _
  have HN3 : Hid (NewsAt w (w2.alloc (.cells #[.slice none 0 0] 50)) #[.slice ak ks.length ck, .slice ap ps.length cp, .slice ae es.length ce] #[.slice ak' ks'.length ck', .slice ap' ps'.length cp', .slice ae' es'.length ce'] (.slice none 0 0) []) := HN2.out.call ((Below.refl _ _).alloc (Nat.le_refl _) _)
  have hw2 : w.heap.size ≤ w2.heap.size := HN2.out.below.size
  clear HN2
  generalize w2.heap.size = Bn at *
  generalize (w2.alloc (.cells #[.slice none 0 0] 50)) = w2a at *
  refine wpIn_wide.2 ?_
  refine wp_region_noPanic ?_
  refine wp_region_held_drew (S := fun w' => (w'.cell? ⟨w.heap.size, 0, none⟩ = some (.slice ak ks.length ck) ∧ w'.cell? ⟨w.heap.size, 1, none⟩ = some (.slice ap ps.length cp) ∧ w'.cell? ⟨w.heap.size, 2, none⟩ = some (.slice ae es.length ce)) ∧ (w'.cell? ⟨w.heap.size + 1, 0, none⟩ = some (.slice ak' ks'.length ck') ∧ w'.cell? ⟨w.heap.size + 1, 1, none⟩ = some (.slice ap' ps'.length cp') ∧ w'.cell? ⟨w.heap.size + 1, 2, none⟩ = some (.slice ae' es'.length ce'))) (by kernel_rfl) ?_ (fun hHeld => ?_)
  · exact ⟨⟨HN3.out.cellA 0, HN3.out.cellA 1, HN3.out.cellA 2⟩, HN3.out.cellB 0, HN3.out.cellB 1, HN3.out.cellB 2⟩
  refine wpAnyH_take (i := 0) (v := ?_) rfl (by kernel_rfl) (by kernel_rfl) (by kernel_rfl) (fun _ _ _ h => h) (Or.inl ⟨by rfl, ?_⟩) (by assumption) ?_
  rotate_left
  · intro w hSw; (try dsimp only at hSw); go_simp; try with_reducible rfl
  simp only [Act.put, List.setIfInBounds_toArray, List.set_cons_zero, List.set_cons_succ, List.getElem_toArray, List.getElem_cons_succ, List.getElem_cons_zero]
  refine wpAnyH_take (i := 2) (v := ?_) rfl (by kernel_rfl) (by kernel_rfl) (by kernel_rfl) (fun _ _ _ h => h) (Or.inl ⟨by rfl, ?_⟩) (by assumption) ?_
  rotate_left
  · intro w hSw; (try dsimp only at hSw); go_simp; try with_reducible rfl
  simp only [Act.put, List.setIfInBounds_toArray, List.set_cons_zero, List.set_cons_succ, List.getElem_toArray, List.getElem_cons_succ, List.getElem_cons_zero]
  refine wpAnyH_ready (rs := [1]) (by kernel_rfl) (by simp) ?_
  refine AllReadyH.cons rfl (fun K hK => ?_) AllReadyH.nil
  go_simp
  refine (changesOf_any _ _ _ es _ (HEE.out.1.keep HN3.out.below.drew) hsz hel).mono ?_
  rintro e w3 ⟨va, rfl, hn3, hb3⟩
  have HN4 : Hid (NewsAt w w3 #[.slice ak ks.length ck, .slice ap ps.length cp, .slice ae es.length ce] #[.slice ak' ks'.length ck', .slice ap' ps'.length cp', .slice ae' es'.length ce'] (.slice none 0 0) []) := NewsAt.call (wr := w2a.drew) ⟨HN3.out.below.drew, HN3.out.a, HN3.out.b, HN3.out.own⟩ hb3
  have BX1 : Hid (Go.Boxed w3 Bn 50 (.slice none 0 0)) := (hb3.block _ BX0.out.lt).trans BX0.out
  have HV3 : Hid (ChgsNew w3 (Bn + 1) va (chgsOf es)) := by rw [← hsn]; exact hn3
  have hs3 : Bn + 1 ≤ w3.heap.size := by rw [← hsn]; exact hb3.size
  refine hK.out _ _ ⟨⟨HN4.out.cellA 0, HN4.out.cellA 1, HN4.out.cellA 2⟩, HN4.out.cellB 0, HN4.out.cellB 1, HN4.out.cellB 2⟩ (fun hHeld3 => ?_)
  clear hK K hHeld hHeld3 HN3 BX0 hn3 hb3 hsn
  refine wpAnyH_ready (rs := [3]) (by kernel_rfl) (by simp) ?_
  refine AllReadyH.cons rfl (fun K hK => ?_) AllReadyH.nil
  go_simp
  refine (changesOf_any _ _ _ es' _ (HEE.out.2.keep HN4.out.below) hsz' hel').mono ?_
  rintro e w4 ⟨vb, rfl, hn4, hb4⟩
  have HN5 : Hid (NewsAt w w4 #[.slice ak ks.length ck, .slice ap ps.length cp, .slice ae es.length ce] #[.slice ak' ks'.length ck', .slice ap' ps'.length cp', .slice ae' es'.length ce'] (.slice none 0 0) []) := HN4.out.call hb4
  have BX2 : Hid (Go.Boxed w4 Bn 50 (.slice none 0 0)) := (hb4.block _ BX1.out.lt).trans BX1.out
  have HV4 : Hid (ChgsNew w4 (Bn + 1) va (chgsOf es) ∧ ChgsNew w4 (Bn + 1) vb (chgsOf es')) := ⟨ownsRow_keep HV3.out hb4, ownsRow_base hn4 hs3⟩
  have hs4 : Bn + 1 ≤ w4.heap.size := Nat.le_trans hs3 hb4.size
  have hva : ∃ x n c, va = .slice x n c := by obtain ⟨x, y, e, _⟩ := HV4.out.1.at; exact ⟨_, _, _, e⟩
  have hvb : ∃ x n c, vb = .slice x n c := by obtain ⟨x, y, e, _⟩ := HV4.out.2.at; exact ⟨_, _, _, e⟩
  refine hK.out _ _ ⟨⟨HN5.out.cellA 0, HN5.out.cellA 1, HN5.out.cellA 2⟩, HN5.out.cellB 0, HN5.out.cellB 1, HN5.out.cellB 2⟩ (fun hHeld4 => ?_)
  clear hK K hHeld4 HN4 BX1 HV3 hs3 hn4 hb4
  refine wpAnyH_ready (rs := [4]) (by kernel_rfl) (by simp) ?_
  refine AllReadyH.cons rfl (fun K hK => ?_) AllReadyH.nil
  go_simp
  refine (sideBySide_any va vb _ hva hvb).mono ?_
  rintro e w5 ⟨rfl, hw5⟩
  have hb5 : Below w4.heap.size w4 w5 := by rw [hw5]; exact ((Below.refl _ _).alloc (Nat.le_refl _) _).alloc (by simp) _
  have hs5 : w5.heap.size = w4.heap.size + 1 + 1 := by rw [hw5]; simp
  have c1 : w5.cell? ⟨w4.heap.size, 0, none⟩ = some va := by rw [hw5]; obtain ⟨_, _, _, rfl⟩ := hva; simp [go_sem]
  have c2 : w5.cell? ⟨w4.heap.size + 1, 0, none⟩ = some vb := by rw [hw5]; obtain ⟨_, _, _, rfl⟩ := hvb; simp [go_sem]
  clear hw5
  have HN6 : Hid (NewsAt w w5 #[.slice ak ks.length ck, .slice ap ps.length cp, .slice ae es.length ce] #[.slice ak' ks'.length ck', .slice ap' ps'.length cp', .slice ae' es'.length ce'] (.slice none 0 0) []) := HN5.out.call hb5
  have BX3 : Hid (Go.Boxed w5 Bn 50 (.slice none 0 0)) := (hb5.block _ BX2.out.lt).trans BX2.out
  have HV5 : Hid (ChgsNew w5 (Bn + 1) va (chgsOf es) ∧ ChgsNew w5 (Bn + 1) vb (chgsOf es')) := ⟨ownsRow_keep HV4.out.1 hb5, ownsRow_keep HV4.out.2 hb5⟩
  refine hK.out _ _ ⟨⟨HN6.out.cellA 0, HN6.out.cellA 1, HN6.out.cellA 2⟩, HN6.out.cellB 0, HN6.out.cellB 1, HN6.out.cellB 2⟩ (fun hHeld5 => ?_)
  clear hK K hHeld5 HN5 BX2 HV4 hb5
  refine wpAnyH_done (by kernel_rfl) ?_ _
  refine NoPanic.normal ?_
  generalize w4.heap.size = B1 at *
  gi_wp2
  generalize Value.agg #[.slice ak ks.length ck, .slice ap ps.length cp, .slice ae es.length ce] = gA at *
  generalize Value.agg #[.slice ak' ks'.length ck', .slice ap' ps'.length cp', .slice ae' es'.length ce'] = gB at *
  have HI0 : Hid (NewsI w Bn (B1 + 1 + 1) [] w5) := ⟨.slice none 0 0, ⟨BX3.out, rfl, .inl ⟨rfl, rfl⟩⟩, HN6.out.below, by omega, hw2, by omega⟩
  clear HN6 BX3 HEE
  refine wpIn_rangeFunc_ownH rfl (by omega) (gf := 86) (lb := #[.pointer (some ⟨B1, 0, none⟩), .pointer (some ⟨B1 + 1, 0, none⟩)]) rfl trivial (enters_of Tryz.func86 (by kernel_rfl) rfl)
    (side_stops 8 B1 (B1 + 1) (Bn + 1) (B1 + 1 + 1) (by omega) va vb (chgsOf es) (chgsOf es') w5 hs4 (by omega) (by omega) (by omega) (by omega) c1 c2 (HV5.out.1.r (Nat.le_refl _) (by omega)) (HV5.out.2.r (Nat.le_refl _) (by omega)) (by rw [chgsOf_len]; exact hsz) (by rw [chgsOf_len]; exact hsz') HSM.out)
    (fun h k => h.trans k) (fun W l o o' hl _ _ _ k h1 h2 => World.putObj_heap_other (by omega)) (Below.refl _ _) (fun _ => rfl)
    (fun (pre : List PairC) (W : World) => NewsI w Bn (B1 + 1 + 1) ((pre.map fun q : PairC => q.1).filterMap pick) W)
    (fun _ _ _ => False)
    (fun s W W' row hs hg hr => hs.own hg hr (by omega))
    (fun _ _ _ _ _ hs _ _ => hs)
    HI0.out
    (fun x a' W => ∃ Bx By, (ChgAt W Bx 0 x.1.1 ∧ ChgAt W By 0 x.1.2) ∧ a' = { tmps := #[gA, gB, .pointer (some ⟨w.heap.size, 0, none⟩), .pointer (some ⟨w.heap.size + 1, 0, none⟩), .slice none 0 0, .pointer (some ⟨Bn, 0, none⟩), .pointer (some ⟨Bx, 0, none⟩), .pointer (some ⟨By, 0, none⟩), gA, .bool true, .bool false, .bool false, gB, .bool true, .bool false, .bool false, gA, va, gB, vb, .func (.func 86) #[] #[.pointer (some ⟨B1, 0, none⟩), .pointer (some ⟨B1 + 1, 0, none⟩)], chgVal x.1.1, chgVal x.1.2, undef, undef, undef, undef, undef, undef, undef, undef, undef, undef, undef], defers := [] })
    (fun x a' _ X Y row hs hg hr => by obtain ⟨Bx, By, ⟨h1, h2⟩, h3⟩ := hs; exact ⟨Bx, By, ⟨chgAt_own h1 hg (fun r e => (hr r e).2), chgAt_own h2 hg (fun r e => (hr r e).2)⟩, h3⟩)
    ?assign ?body ?done ?stop
  case assign =>
    rintro l pre x W K hi hK
    have HI : Hid (NewsI w Bn (B1 + 1 + 1) ((pre.map (·.1)).filterMap pick) W) := hi
    have HK : Hid (∀ a' W', KeepsFrom w5.heap.size W W' → KeepR (Bn + 1) (B1 + 1 + 1) W W' → NewsI w Bn (B1 + 1 + 1) ((pre.map (·.1)).filterMap pick) W' → (∃ Bx By, (ChgAt W' Bx 0 x.1.1 ∧ ChgAt W' By 0 x.1.2) ∧ a' = { tmps := #[gA, gB, .pointer (some ⟨w.heap.size, 0, none⟩), .pointer (some ⟨w.heap.size + 1, 0, none⟩), .slice none 0 0, .pointer (some ⟨Bn, 0, none⟩), .pointer (some ⟨Bx, 0, none⟩), .pointer (some ⟨By, 0, none⟩), gA, .bool true, .bool false, .bool false, gB, .bool true, .bool false, .bool false, gA, va, gB, vb, .func (.func 86) #[] #[.pointer (some ⟨B1, 0, none⟩), .pointer (some ⟨B1 + 1, 0, none⟩)], chgVal x.1.1, chgVal x.1.2, undef, undef, undef, undef, undef, undef, undef, undef, undef, undef, undef], defers := [] }) → K a' W') := hK
    clear hi hK HI0
    obtain ⟨⟨⟨yf, yw, yn, yv⟩, ⟨sf, sw, sn, sv⟩⟩, hx⟩ := x
    dsimp only [chgVal] at *
    gi_wp2
    have hb : Below W.heap.size W ((W.alloc (.cells #[.string yf, .int .i64 yw, .int .i64 yn, .string yv] 43)).alloc (.cells #[.string sf, .int .i64 sw, .int .i64 sn, .string sv] 43)) := ((Below.refl _ _).alloc (Nat.le_refl _) _).alloc (by simp) _
    have h6 : B1 + 1 + 1 ≤ W.heap.size := by obtain ⟨_, _, _, _, _, h⟩ := HI.out; exact h
    exact HK.out _ _ (below_keeps hb _) (KeepR.below hb h6) (HI.out.call hb) ⟨W.heap.size, W.heap.size + 1, ⟨by simp [ChgAt, go_sem], by simp [ChgAt, go_sem]⟩, rfl⟩
  case body =>
    rintro l pre x a' W hl hrr hi ⟨Bx, By, ⟨hx, hy⟩, rfl⟩ hlt
    have HI : Hid (NewsI w Bn (B1 + 1 + 1) ((pre.map (·.1)).filterMap pick) W) := hi
    clear hi HI0 hrr
    obtain ⟨⟨⟨yf, yw, yn, yv⟩, ⟨sf, sw, sn, sv⟩⟩, hs1, hs2⟩ := x
    dsimp only [chgVal] at *
    obtain ⟨x0, x1, x2, x3⟩ := hx
    obtain ⟨y0, y1, y2, y3⟩ := hy
    dsimp only [Nat.zero_add] at *
    gi_wp2
    refine wpIn_region_roundH (S := fun w' => (w'.cell? ⟨Bx, 0, none⟩ = some (.string yf) ∧ w'.cell? ⟨Bx, 1, none⟩ = some (.int .i64 yw) ∧ w'.cell? ⟨Bx, 2, none⟩ = some (.int .i64 yn) ∧ w'.cell? ⟨Bx, 3, none⟩ = some (.string yv)) ∧ w'.cell? ⟨By, 0, none⟩ = some (.string sf) ∧ w'.cell? ⟨By, 1, none⟩ = some (.int .i64 sw) ∧ w'.cell? ⟨By, 2, none⟩ = some (.int .i64 sn) ∧ w'.cell? ⟨By, 3, none⟩ = some (.string sv)) (by kernel_rfl) (by kernel_rfl) ?_ (fun hHeld => ?_)
    · exact ⟨⟨x0, x1, x2, x3⟩, y0, y1, y2, y3⟩
    refine wpAnyH_take (i := 0) (v := ?_) rfl (by kernel_rfl) (by kernel_rfl) (by kernel_rfl) (fun _ _ _ h => h) (Or.inl ⟨by rfl, ?_⟩) (by assumption) ?_
    rotate_left
    · intro w hSw; (try dsimp only at hSw); go_simp; try with_reducible rfl
    simp only [Act.put, List.setIfInBounds_toArray, List.set_cons_zero, List.set_cons_succ, List.getElem_toArray, List.getElem_cons_succ, List.getElem_cons_zero]
    refine wpAnyH_take (i := 2) (v := ?_) rfl (by kernel_rfl) (by kernel_rfl) (by kernel_rfl) (fun _ _ _ h => h) (Or.inl ⟨by rfl, ?_⟩) (by assumption) ?_
    rotate_left
    · intro w hSw; (try dsimp only at hSw); go_simp; try with_reducible rfl
    simp only [Act.put, List.setIfInBounds_toArray, List.set_cons_zero, List.set_cons_succ, List.getElem_toArray, List.getElem_cons_succ, List.getElem_cons_zero]
    refine wpAnyH_ready (rs := [1]) (by kernel_rfl) (by simp) ?_
    refine AllReadyH.cons rfl (fun K hK => ?_) AllReadyH.nil
    go_simp
    refine (fieldOf_any ⟨sf, sw, sn, sv⟩ _).mono ?_
    rintro e w6 ⟨rfl, hb6'⟩
    have hb6 : Below W.heap.size W w6 := ⟨hb6'.os, hb6'.tape, hb6'.output, hb6'.size, hb6'.block⟩
    have x0a := cell_keep hb6 (Nat.le_refl _) x0
    have x1a := cell_keep hb6 (Nat.le_refl _) x1
    have x2a := cell_keep hb6 (Nat.le_refl _) x2
    have x3a := cell_keep hb6 (Nat.le_refl _) x3
    have y0a := cell_keep hb6 (Nat.le_refl _) y0
    have y1a := cell_keep hb6 (Nat.le_refl _) y1
    have y2a := cell_keep hb6 (Nat.le_refl _) y2
    have y3a := cell_keep hb6 (Nat.le_refl _) y3
    refine hK.out _ _ ⟨⟨x0a, x1a, x2a, x3a⟩, y0a, y1a, y2a, y3a⟩ (fun hHeld6 => ?_)
    clear hK K hHeld hHeld6 hb6'
    refine wpAnyH_ready (rs := [3]) (by kernel_rfl) (by simp) ?_
    refine AllReadyH.cons rfl (fun K hK => ?_) AllReadyH.nil
    go_simp
    refine (fieldOf_any ⟨yf, yw, yn, yv⟩ _).mono ?_
    rintro e w7 ⟨rfl, hb7⟩
    have x0b := cell_keep hb7 (Nat.le_refl _) x0a
    have x1b := cell_keep hb7 (Nat.le_refl _) x1a
    have x2b := cell_keep hb7 (Nat.le_refl _) x2a
    have x3b := cell_keep hb7 (Nat.le_refl _) x3a
    have y0b := cell_keep hb7 (Nat.le_refl _) y0a
    have y1b := cell_keep hb7 (Nat.le_refl _) y1a
    have y2b := cell_keep hb7 (Nat.le_refl _) y2a
    have y3b := cell_keep hb7 (Nat.le_refl _) y3a
    refine hK.out _ _ ⟨⟨x0b, x1b, x2b, x3b⟩, y0b, y1b, y2b, y3b⟩ (fun hHeld7 => ?_)
    clear hK K hHeld7
    refine wpAnyH_ready (rs := [4]) (by kernel_rfl) (by simp) ?_
    refine AllReadyH.cons rfl (fun K hK => ?_) AllReadyH.nil
    go_simp
    refine (later_any ⟨sf, sw, sn, sv⟩ ⟨yf, yw, yn, yv⟩ _).mono ?_
    rintro e w8 ⟨rfl, hb8⟩
    have x0c := cell_keep hb8 (Nat.le_refl _) x0b
    have x1c := cell_keep hb8 (Nat.le_refl _) x1b
    have x2c := cell_keep hb8 (Nat.le_refl _) x2b
    have x3c := cell_keep hb8 (Nat.le_refl _) x3b
    have y0c := cell_keep hb8 (Nat.le_refl _) y0b
    have y1c := cell_keep hb8 (Nat.le_refl _) y1b
    have y2c := cell_keep hb8 (Nat.le_refl _) y2b
    have y3c := cell_keep hb8 (Nat.le_refl _) y3b
    refine hK.out _ _ ⟨⟨x0c, x1c, x2c, x3c⟩, y0c, y1c, y2c, y3c⟩ (fun hHeld8 => ?_)
    clear hK K hHeld8
    have HB8 : Hid (Below W.heap.size W w8) := below_step (below_step hb6 hb7) hb8
    have HI8 : Hid (NewsI w Bn (B1 + 1 + 1) ((pre.map (·.1)).filterMap pick) w8) := HI.out.call HB8.out
    have h6 : B1 + 1 + 1 ≤ W.heap.size := by obtain ⟨_, _, _, _, _, h⟩ := HI.out; exact h
    clear x0 x1 x2 x3 y0 y1 y2 y3 x0a x1a x2a x3a y0a y1a y2a y3a x0b x1b x2b x3b y0b y1b y2b y3b x0c x1c x2c x3c hb6 hb7 hb8 HI
    refine wpAnyH_done (by kernel_rfl) ?_ _
    refine OnlyN.normal ?_
    cases hlat : latC ⟨sf, sw, sn, sv⟩ ⟨yf, yw, yn, yv⟩
    · have HI9 : Hid (NewsI w Bn (B1 + 1 + 1) (((pre ++ [(⟨(⟨yf, yw, yn, yv⟩, ⟨sf, sw, sn, sv⟩), hs1, hs2⟩ : PairC)]).map (·.1)).filterMap pick) w8) := by
        show NewsI _ _ _ _ _
        rw [List.map_append, List.filterMap_append]
        simp only [List.map_cons, List.map_nil, List.filterMap_cons, pick_false hlat, List.filterMap_nil, List.append_nil]
        exact HI8.out
      clear hlat HI8
      gi_wp2
      exact ⟨below_keeps HB8.out _, KeepR.below HB8.out h6, HI9.out⟩
    · have HPK : Hid (((pre ++ [(⟨(⟨yf, yw, yn, yv⟩, ⟨sf, sw, sn, sv⟩), hs1, hs2⟩ : PairC)]).map (·.1)).filterMap pick = (pre.map (·.1)).filterMap pick ++ [⟨sf, sw, sn, sv⟩]) := by
        show _ = _
        rw [List.map_append, List.filterMap_append]
        simp only [List.map_cons, List.map_nil, List.filterMap_cons, pick_true hlat, List.filterMap_nil]
      have hlen : ((pre.map (·.1)).filterMap pick).length ≤ pre.length := by have := List.length_filterMap_le pick (pre.map (·.1)); simpa using this
      have hlt2 : pre.length < 1048576 + 1048576 := by
        have e1 := chgsOf_len es
        have e2 := chgsOf_len es'
        omega
      clear hlat hlt
      generalize (pre.map (·.1)).filterMap pick = cs at *
      gi_wp2
      obtain ⟨v, ⟨hbx, hown⟩, hbel, hq1, hq2, hq3⟩ := HI8.out
      have HX8 : Hid ((Go.Boxed w8.drew Bn 50 v ∧ ChgsNew w8.drew (B1 + 1 + 1) v cs) ∧ (Below w.heap.size w w8.drew ∧ Below W.heap.size W w8.drew) ∧ B1 + 1 + 1 ≤ w8.drew.heap.size) := ⟨⟨hbx, hown⟩, ⟨hbel.drew, HB8.out.drew⟩, hq3⟩
      have cn : w8.drew.cell? ⟨Bn, 0, none⟩ = some v := hbx.cell
      have y0d : w8.drew.cell? ⟨By, 0, none⟩ = some (.string sf) := y0c
      have y1d : w8.drew.cell? ⟨By, 1, none⟩ = some (.int .i64 sw) := y1c
      have y2d : w8.drew.cell? ⟨By, 2, none⟩ = some (.int .i64 sn) := y2c
      have y3d : w8.drew.cell? ⟨By, 3, none⟩ = some (.string sv) := y3c
      clear y0c y1c y2c y3c hbx hown hbel HI8 HB8
      refine wpIn_region_roundH (S := fun _ => True) (by kernel_rfl) (by kernel_rfl) trivial (fun _ => ?_)
      generalize w8.drew = w8d at *
      refine wpAnyH_ready (rs := [0, 1]) (by kernel_rfl) (by simp) ?_
      refine AllReadyH.cons rfl (fun K hK => ?_) (AllReadyH.cons rfl (fun K hK => ?_) AllReadyH.nil)
      · go_simp
        refine hK.out _ _ trivial (fun _ => ?_)
        clear hK K
        refine wpAnyH_ready (rs := [1]) (by kernel_rfl) (by simp) ?_
        refine AllReadyH.cons rfl (fun K hK => ?_) AllReadyH.nil
        go_simp
        refine hK.out _ _ trivial (fun _ => ?_)
        clear hK K
        refine wpAnyH_ready (rs := [2]) (by kernel_rfl) (by simp) ?_
        refine AllReadyH.cons rfl (fun K hK => ?_) AllReadyH.nil
        go_simp
        refine (copyChange_any ⟨sf, sw, sn, sv⟩ _ hs1 hs2).mono ?_
        rintro e w9 ⟨rfl, hb9⟩
        have cn9 : w9.cell? ⟨Bn, 0, none⟩ = some v := cell_keep hb9 (Nat.le_refl _) cn
        have HX9 : Hid ((Go.Boxed w9 Bn 50 v ∧ ChgsNew w9 (B1 + 1 + 1) v cs) ∧ (Below w.heap.size w w9 ∧ Below W.heap.size W w9) ∧ B1 + 1 + 1 ≤ w9.heap.size) := ⟨⟨(hb9.block _ HX8.out.1.1.lt).trans HX8.out.1.1, ownsRow_keep HX8.out.1.2 hb9⟩, ⟨below_step HX8.out.2.1.1 hb9, below_step HX8.out.2.1.2 hb9⟩, Nat.le_trans HX8.out.2.2 hb9.size⟩
        refine hK.out _ _ trivial (fun _ => ?_)
        clear hK K hb9
        refine wpAnyH_ready (rs := [3]) (by kernel_rfl) (by simp) ?_
        refine AllReadyH.cons rfl (fun K hK => ?_) AllReadyH.nil
        go_simp
        have cn10 : (w9.alloc (.cells #[.string sf, .int .i64 sw, .int .i64 sn, .string sv] 43)).cell? ⟨Bn, 0, none⟩ = some v := cell_keep ((Below.refl _ _).alloc (Nat.le_refl _) _) (Nat.le_refl _) cn9
        refine hK.out _ _ trivial (fun _ => ?_)
        clear hK K
        refine wpAnyH_ready (rs := [4]) (by kernel_rfl) (by simp) ?_
        refine AllReadyH.cons rfl (fun K hK => ?_) AllReadyH.nil
        have hs9 := HX9.out.2.2
        refine step_append_lies _ (by rfl) _ _ 50 (by rfl) (B1 + 1 + 1) 43 i0 (.agg #[.string ByteArray.empty, .int .i64 0, .int .i64 0, .string ByteArray.empty]) 4 48 Tryz.underlying50 hi hz0 hz1 hz2 rfl (by decide) v cs.length (chgRows cs) (by rfl) (ownsRow_keep HX9.out.1.2 ((Below.refl _ _).alloc (Nat.le_refl _) _)) ⟨w9.heap.size, 0, none⟩ 1 1 (chgRow ⟨sf, sw, sn, sv⟩) (by rfl) rfl (cell_four_new _ _ _ _ _ _) (fun x hx => by simp [chgRow] at hx; rcases hx with rfl | rfl | rfl | rfl <;> rfl) (by decide) (by unfold maxLen; omega) (by omega) (by simp; omega) _ rfl ?_
        intro g cap w10 hown10 hgrow10 hat10 hlt10
        have hM := newsI_more (n₁ := Bn + 1) HX9.out.1.1 HX9.out.1.2 HX9.out.2.1.1 (by omega) (by omega) hw2 HX9.out.2.2 hown10 hgrow10 w5.heap.size
        have bx10 : Go.Boxed w10 Bn 50 v := Go.Boxed.kept (HX9.out.1.1.alloc _) hgrow10 (fun e => by have := own_ge HX9.out.1.2 Bn e.symm; omega)
        have cn11 := bx10.cell
        have fn11 := bx10.frozen
        have HF : Hid (KeepsFrom w5.heap.size W (w10.setCell ⟨Bn, 0, none⟩ (.slice (some ⟨g, 0, none⟩) (cs.length + 1) cap)) ∧ KeepR (Bn + 1) (B1 + 1 + 1) W (w10.setCell ⟨Bn, 0, none⟩ (.slice (some ⟨g, 0, none⟩) (cs.length + 1) cap)) ∧ NewsI w Bn (B1 + 1 + 1) (((pre ++ [(⟨(⟨yf, yw, yn, yv⟩, ⟨sf, sw, sn, sv⟩), hs1, hs2⟩ : PairC)]).map (·.1)).filterMap pick) (w10.setCell ⟨Bn, 0, none⟩ (.slice (some ⟨g, 0, none⟩) (cs.length + 1) cap))) := ⟨(below_keeps HX9.out.2.1.2 _).trans hM.2.1, (KeepR.below HX9.out.2.1.2 h6).trans hM.2.2, by rw [HPK.out]; exact hM.1⟩
        refine hK.out _ _ trivial (fun _ => ?_)
        clear hK K hM bx10 hown10 hgrow10 hat10 hlt10 cn10 cn9 HX9
        refine wpAnyH_ready (rs := [5]) (by kernel_rfl) (by simp) ?_
        refine AllReadyH.cons rfl (fun K hK => ?_) AllReadyH.nil
        go_simp
        refine hK.out _ _ trivial (fun _ => ?_)
        clear hK K
        refine wpAnyH_done (by kernel_rfl) ?_ _
        refine OnlyN.normal ?_
        gi_wp2
        exact HF.out
      · go_simp
        refine hK.out _ _ trivial (fun _ => ?_)
        clear hK K
        refine wpAnyH_ready (rs := [0, 2]) (by kernel_rfl) (by simp) ?_
        refine AllReadyH.cons rfl (fun K hK => ?_) (AllReadyH.cons rfl (fun K hK => ?_) AllReadyH.nil)
        · go_simp
          refine hK.out _ _ trivial (fun _ => ?_)
          clear hK K
          refine wpAnyH_ready (rs := [2]) (by kernel_rfl) (by simp) ?_
          refine AllReadyH.cons rfl (fun K hK => ?_) AllReadyH.nil
          go_simp
          refine (copyChange_any ⟨sf, sw, sn, sv⟩ _ hs1 hs2).mono ?_
          rintro e w9 ⟨rfl, hb9⟩
          have cn9 : w9.cell? ⟨Bn, 0, none⟩ = some v := cell_keep hb9 (Nat.le_refl _) cn
          have HX9 : Hid ((Go.Boxed w9 Bn 50 v ∧ ChgsNew w9 (B1 + 1 + 1) v cs) ∧ (Below w.heap.size w w9 ∧ Below W.heap.size W w9) ∧ B1 + 1 + 1 ≤ w9.heap.size) := ⟨⟨(hb9.block _ HX8.out.1.1.lt).trans HX8.out.1.1, ownsRow_keep HX8.out.1.2 hb9⟩, ⟨below_step HX8.out.2.1.1 hb9, below_step HX8.out.2.1.2 hb9⟩, Nat.le_trans HX8.out.2.2 hb9.size⟩
          refine hK.out _ _ trivial (fun _ => ?_)
          clear hK K hb9
          refine wpAnyH_ready (rs := [3]) (by kernel_rfl) (by simp) ?_
          refine AllReadyH.cons rfl (fun K hK => ?_) AllReadyH.nil
          go_simp
          have cn10 : (w9.alloc (.cells #[.string sf, .int .i64 sw, .int .i64 sn, .string sv] 43)).cell? ⟨Bn, 0, none⟩ = some v := cell_keep ((Below.refl _ _).alloc (Nat.le_refl _) _) (Nat.le_refl _) cn9
          refine hK.out _ _ trivial (fun _ => ?_)
          clear hK K
          refine wpAnyH_ready (rs := [4]) (by kernel_rfl) (by simp) ?_
          refine AllReadyH.cons rfl (fun K hK => ?_) AllReadyH.nil
          have hs9 := HX9.out.2.2
          refine step_append_lies _ (by rfl) _ _ 50 (by rfl) (B1 + 1 + 1) 43 i0 (.agg #[.string ByteArray.empty, .int .i64 0, .int .i64 0, .string ByteArray.empty]) 4 48 Tryz.underlying50 hi hz0 hz1 hz2 rfl (by decide) v cs.length (chgRows cs) (by rfl) (ownsRow_keep HX9.out.1.2 ((Below.refl _ _).alloc (Nat.le_refl _) _)) ⟨w9.heap.size, 0, none⟩ 1 1 (chgRow ⟨sf, sw, sn, sv⟩) (by rfl) rfl (cell_four_new _ _ _ _ _ _) (fun x hx => by simp [chgRow] at hx; rcases hx with rfl | rfl | rfl | rfl <;> rfl) (by decide) (by unfold maxLen; omega) (by omega) (by simp; omega) _ rfl ?_
          intro g cap w10 hown10 hgrow10 hat10 hlt10
          have hM := newsI_more (n₁ := Bn + 1) HX9.out.1.1 HX9.out.1.2 HX9.out.2.1.1 (by omega) (by omega) hw2 HX9.out.2.2 hown10 hgrow10 w5.heap.size
          have bx10 : Go.Boxed w10 Bn 50 v := Go.Boxed.kept (HX9.out.1.1.alloc _) hgrow10 (fun e => by have := own_ge HX9.out.1.2 Bn e.symm; omega)
          have cn11 := bx10.cell
          have fn11 := bx10.frozen
          have HF : Hid (KeepsFrom w5.heap.size W (w10.setCell ⟨Bn, 0, none⟩ (.slice (some ⟨g, 0, none⟩) (cs.length + 1) cap)) ∧ KeepR (Bn + 1) (B1 + 1 + 1) W (w10.setCell ⟨Bn, 0, none⟩ (.slice (some ⟨g, 0, none⟩) (cs.length + 1) cap)) ∧ NewsI w Bn (B1 + 1 + 1) (((pre ++ [(⟨(⟨yf, yw, yn, yv⟩, ⟨sf, sw, sn, sv⟩), hs1, hs2⟩ : PairC)]).map (·.1)).filterMap pick) (w10.setCell ⟨Bn, 0, none⟩ (.slice (some ⟨g, 0, none⟩) (cs.length + 1) cap))) := ⟨(below_keeps HX9.out.2.1.2 _).trans hM.2.1, (KeepR.below HX9.out.2.1.2 h6).trans hM.2.2, by rw [HPK.out]; exact hM.1⟩
          refine hK.out _ _ trivial (fun _ => ?_)
          clear hK K hM bx10 hown10 hgrow10 hat10 hlt10 cn10 cn9 HX9
          refine wpAnyH_ready (rs := [5]) (by kernel_rfl) (by simp) ?_
          refine AllReadyH.cons rfl (fun K hK => ?_) AllReadyH.nil
          go_simp
          refine hK.out _ _ trivial (fun _ => ?_)
          clear hK K
          refine wpAnyH_done (by kernel_rfl) ?_ _
          refine OnlyN.normal ?_
          gi_wp2
          exact HF.out
        · go_simp
          refine (copyChange_any ⟨sf, sw, sn, sv⟩ _ hs1 hs2).mono ?_
          rintro e w9 ⟨rfl, hb9⟩
          have cn9 : w9.cell? ⟨Bn, 0, none⟩ = some v := cell_keep hb9 (Nat.le_refl _) cn
          have HX9 : Hid ((Go.Boxed w9 Bn 50 v ∧ ChgsNew w9 (B1 + 1 + 1) v cs) ∧ (Below w.heap.size w w9 ∧ Below W.heap.size W w9) ∧ B1 + 1 + 1 ≤ w9.heap.size) := ⟨⟨(hb9.block _ HX8.out.1.1.lt).trans HX8.out.1.1, ownsRow_keep HX8.out.1.2 hb9⟩, ⟨below_step HX8.out.2.1.1 hb9, below_step HX8.out.2.1.2 hb9⟩, Nat.le_trans HX8.out.2.2 hb9.size⟩
          refine hK.out _ _ trivial (fun _ => ?_)
          clear hK K hb9
          refine wpAnyH_ready (rs := [0, 3]) (by kernel_rfl) (by simp) ?_
          refine AllReadyH.cons rfl (fun K hK => ?_) (AllReadyH.cons rfl (fun K hK => ?_) AllReadyH.nil)
          · go_simp
            refine hK.out _ _ trivial (fun _ => ?_)
            clear hK K
            refine wpAnyH_ready (rs := [3]) (by kernel_rfl) (by simp) ?_
            refine AllReadyH.cons rfl (fun K hK => ?_) AllReadyH.nil
            go_simp
            have cn10 : (w9.alloc (.cells #[.string sf, .int .i64 sw, .int .i64 sn, .string sv] 43)).cell? ⟨Bn, 0, none⟩ = some v := cell_keep ((Below.refl _ _).alloc (Nat.le_refl _) _) (Nat.le_refl _) cn9
            refine hK.out _ _ trivial (fun _ => ?_)
            clear hK K
            refine wpAnyH_ready (rs := [4]) (by kernel_rfl) (by simp) ?_
            refine AllReadyH.cons rfl (fun K hK => ?_) AllReadyH.nil
            have hs9 := HX9.out.2.2
            refine step_append_lies _ (by rfl) _ _ 50 (by rfl) (B1 + 1 + 1) 43 i0 (.agg #[.string ByteArray.empty, .int .i64 0, .int .i64 0, .string ByteArray.empty]) 4 48 Tryz.underlying50 hi hz0 hz1 hz2 rfl (by decide) v cs.length (chgRows cs) (by rfl) (ownsRow_keep HX9.out.1.2 ((Below.refl _ _).alloc (Nat.le_refl _) _)) ⟨w9.heap.size, 0, none⟩ 1 1 (chgRow ⟨sf, sw, sn, sv⟩) (by rfl) rfl (cell_four_new _ _ _ _ _ _) (fun x hx => by simp [chgRow] at hx; rcases hx with rfl | rfl | rfl | rfl <;> rfl) (by decide) (by unfold maxLen; omega) (by omega) (by simp; omega) _ rfl ?_
            intro g cap w10 hown10 hgrow10 hat10 hlt10
            have hM := newsI_more (n₁ := Bn + 1) HX9.out.1.1 HX9.out.1.2 HX9.out.2.1.1 (by omega) (by omega) hw2 HX9.out.2.2 hown10 hgrow10 w5.heap.size
            have bx10 : Go.Boxed w10 Bn 50 v := Go.Boxed.kept (HX9.out.1.1.alloc _) hgrow10 (fun e => by have := own_ge HX9.out.1.2 Bn e.symm; omega)
            have cn11 := bx10.cell
            have fn11 := bx10.frozen
            have HF : Hid (KeepsFrom w5.heap.size W (w10.setCell ⟨Bn, 0, none⟩ (.slice (some ⟨g, 0, none⟩) (cs.length + 1) cap)) ∧ KeepR (Bn + 1) (B1 + 1 + 1) W (w10.setCell ⟨Bn, 0, none⟩ (.slice (some ⟨g, 0, none⟩) (cs.length + 1) cap)) ∧ NewsI w Bn (B1 + 1 + 1) (((pre ++ [(⟨(⟨yf, yw, yn, yv⟩, ⟨sf, sw, sn, sv⟩), hs1, hs2⟩ : PairC)]).map (·.1)).filterMap pick) (w10.setCell ⟨Bn, 0, none⟩ (.slice (some ⟨g, 0, none⟩) (cs.length + 1) cap))) := ⟨(below_keeps HX9.out.2.1.2 _).trans hM.2.1, (KeepR.below HX9.out.2.1.2 h6).trans hM.2.2, by rw [HPK.out]; exact hM.1⟩
            refine hK.out _ _ trivial (fun _ => ?_)
            clear hK K hM bx10 hown10 hgrow10 hat10 hlt10 cn10 cn9 HX9
            refine wpAnyH_ready (rs := [5]) (by kernel_rfl) (by simp) ?_
            refine AllReadyH.cons rfl (fun K hK => ?_) AllReadyH.nil
            go_simp
            refine hK.out _ _ trivial (fun _ => ?_)
            clear hK K
            refine wpAnyH_done (by kernel_rfl) ?_ _
            refine OnlyN.normal ?_
            gi_wp2
            exact HF.out
          · go_simp
            have cn10 : (w9.alloc (.cells #[.string sf, .int .i64 sw, .int .i64 sn, .string sv] 43)).cell? ⟨Bn, 0, none⟩ = some v := cell_keep ((Below.refl _ _).alloc (Nat.le_refl _) _) (Nat.le_refl _) cn9
            refine hK.out _ _ trivial (fun _ => ?_)
            clear hK K
            refine wpAnyH_ready (rs := [0]) (by kernel_rfl) (by simp) ?_
            refine AllReadyH.cons rfl (fun K hK => ?_) AllReadyH.nil
            go_simp
            refine hK.out _ _ trivial (fun _ => ?_)
            clear hK K
            refine wpAnyH_ready (rs := [4]) (by kernel_rfl) (by simp) ?_
            refine AllReadyH.cons rfl (fun K hK => ?_) AllReadyH.nil
            have hs9 := HX9.out.2.2
            refine step_append_lies _ (by rfl) _ _ 50 (by rfl) (B1 + 1 + 1) 43 i0 (.agg #[.string ByteArray.empty, .int .i64 0, .int .i64 0, .string ByteArray.empty]) 4 48 Tryz.underlying50 hi hz0 hz1 hz2 rfl (by decide) v cs.length (chgRows cs) (by rfl) (ownsRow_keep HX9.out.1.2 ((Below.refl _ _).alloc (Nat.le_refl _) _)) ⟨w9.heap.size, 0, none⟩ 1 1 (chgRow ⟨sf, sw, sn, sv⟩) (by rfl) rfl (cell_four_new _ _ _ _ _ _) (fun x hx => by simp [chgRow] at hx; rcases hx with rfl | rfl | rfl | rfl <;> rfl) (by decide) (by unfold maxLen; omega) (by omega) (by simp; omega) _ rfl ?_
            intro g cap w10 hown10 hgrow10 hat10 hlt10
            have hM := newsI_more (n₁ := Bn + 1) HX9.out.1.1 HX9.out.1.2 HX9.out.2.1.1 (by omega) (by omega) hw2 HX9.out.2.2 hown10 hgrow10 w5.heap.size
            have bx10 : Go.Boxed w10 Bn 50 v := Go.Boxed.kept (HX9.out.1.1.alloc _) hgrow10 (fun e => by have := own_ge HX9.out.1.2 Bn e.symm; omega)
            have cn11 := bx10.cell
            have fn11 := bx10.frozen
            have HF : Hid (KeepsFrom w5.heap.size W (w10.setCell ⟨Bn, 0, none⟩ (.slice (some ⟨g, 0, none⟩) (cs.length + 1) cap)) ∧ KeepR (Bn + 1) (B1 + 1 + 1) W (w10.setCell ⟨Bn, 0, none⟩ (.slice (some ⟨g, 0, none⟩) (cs.length + 1) cap)) ∧ NewsI w Bn (B1 + 1 + 1) (((pre ++ [(⟨(⟨yf, yw, yn, yv⟩, ⟨sf, sw, sn, sv⟩), hs1, hs2⟩ : PairC)]).map (·.1)).filterMap pick) (w10.setCell ⟨Bn, 0, none⟩ (.slice (some ⟨g, 0, none⟩) (cs.length + 1) cap))) := ⟨(below_keeps HX9.out.2.1.2 _).trans hM.2.1, (KeepR.below HX9.out.2.1.2 h6).trans hM.2.2, by rw [HPK.out]; exact hM.1⟩
            refine hK.out _ _ trivial (fun _ => ?_)
            clear hK K hM bx10 hown10 hgrow10 hat10 hlt10 cn10 cn9 HX9
            refine wpAnyH_ready (rs := [5]) (by kernel_rfl) (by simp) ?_
            refine AllReadyH.cons rfl (fun K hK => ?_) AllReadyH.nil
            go_simp
            refine hK.out _ _ trivial (fun _ => ?_)
            clear hK K
            refine wpAnyH_done (by kernel_rfl) ?_ _
            refine OnlyN.normal ?_
            gi_wp2
            exact HF.out
  case done =>
    rintro D xs W hD hxs hi hK
    obtain ⟨v, ⟨h1, h2⟩, h3, h4, h5, h6⟩ := hi
    have cS := h1.cell
    gi_wp2
    refine ⟨by simp, .inl ⟨_, _, rfl, run_takeDeferred hK, ?_⟩⟩
    refine ⟨_, results_tmp rfl _ _ _, v, rfl, ?_, ?_⟩
    · rw [HRR.out, ← hxs]
      refine ownsRow_base (ownsRow_far h2 (grownBy_putObj' W D _) ?_) (by omega)
      intro k hk e
      cases e
      rcases h2.2 with ⟨rfl, _⟩ | ⟨g, cap, cur, rfl, hg, hc, _⟩
      · cases hk
      · cases hk; rw [hc] at hK; cases hK
    · exact h3.grown (grownBy_putObj' W D _) h3.size (fun k e => by cases e; omega)
  case stop =>
    rintro D c pre W _ _ h _
    exact h.elim
end Go.Proofs.YtfjblenkcfdbiaaGreat
