import Derived.Test.YtibpkhmiahamcaaGreatAllS
namespace Go.Proofs.YtibpkhmiahamcaaGreat
open Go.RowKit
set_option linter.unusedSimpArgs false
set_option linter.unusedVariables false
set_option maxRecDepth 100000 in
set_option maxHeartbeats 12800000 in
theorem planTakeAll_any (vk vp ve vl : Value) (ks ps : List Tri) (es : List Ent) (L : List Chg) (w : World) (hB : BookAt w vk vp ve ks ps es) (hL : ChgsAt w vl L) (hS : SmB (ks, ps, es)) (hLs : ∀ c ∈ L, c.f.size ≤ 1048576 ∧ c.v.size ≤ 1048576) (hLl : L.length ≤ 1048576) :
  Calls Tryz.prog 18 #[.agg #[vk, vp, ve], vl] w fun e w' => ∃ x y z v, e = .returned (.tuple #[.agg #[x, y, z], v]) ∧ BookNew w.heap.size w' x y z (allR ks ps es L).1 (allR ks ps es L).2.1 (allR ks ps es L).2.2 ∧ IntsNew w' w.heap.size v (allC ks ps es L) ∧ Below w.heap.size w w' := by
 obtain ⟨i0, hi0, hz0, hz1, hz2⟩ := info_parts infoInt
 have HB : Hid (BookAt w vk vp ve ks ps es) := hB
 have SM : Hid (SmB (ks, ps, es)) := hS
 obtain ⟨⟨ak, ck, rfl, -, -, -⟩, ⟨ap, cp, rfl, -, -, -⟩, ⟨ae, ce, rfl, -, -, -⟩⟩ := hB
 obtain ⟨al, cl, rfl, hlc, hlm, hl3⟩ := hL
 unfold maxLen at hlm
 have HLA : Hid (∀ i c, L[i]? = some c → ∃ b off, al = some ⟨b, off, none⟩ ∧ ChgAt w b (off + i * 4) c) := hl3
 have HLS : Hid (∀ c ∈ L, c.f.size ≤ 1048576 ∧ c.v.size ≤ 1048576) := hLs
 have HCA : Hid (∀ wx : World, Below w.heap.size w wx → Calls Tryz.prog 25 #[.agg #[.slice ak ks.length ck, .slice ap ps.length cp, .slice ae es.length ce]] wx fun e w' => ∃ v, e = .returned v ∧ ChgsNew w' wx.heap.size v (chgsOf es) ∧ Below wx.heap.size wx w') := fun wx hx => changesOf_any _ _ _ es wx (HB.out.keep hx).e hS.u hS.s.e
 have hlA : (chgsOf es).length ≤ 1048576 := by rw [chgsOf_len]; exact hS.u
 clear hS hl3 hLs
 have L1 : Hid (Bxs w _ [(w.heap.size, #[.slice ak ks.length ck, .slice ap ps.length cp, .slice ae es.length ce], 29), (w.heap.size + 1, #[.slice none 0 0, .slice none 0 0, .slice none 0 0], 29)]) := Bxs.start2 w #[.slice ak ks.length ck, .slice ap ps.length cp, .slice ae es.length ce] #[.slice none 0 0, .slice none 0 0, .slice none 0 0] 29 29
 go_enter Tryz.func18, Tryz.ntmps18
 go_wp2_with fail
 refine (bookOk_any _ _ _ ks ps es _ (HB.out.keep L1.out.below) SM.out.n SM.out.s).mono ?_
 rintro e w1 ⟨rfl, hb1⟩
 have L2 : Hid (Bxs w w1 [(w.heap.size, #[.slice ak ks.length ck, .slice ap ps.length cp, .slice ae es.length ce], 29), (w.heap.size + 1, #[.slice none 0 0, .slice none 0 0, .slice none 0 0], 29)]) := L1.out.call hb1
 clear L1 hb1
 have hr1 := L2.out.has (w.heap.size + 1, #[.slice none 0 0, .slice none 0 0, .slice none 0 0], 29) (by simp)
 dsimp only at hr1
 have hz1' : w.heap.size + 1 < w1.heap.size := L2.out.lt (p := (w.heap.size + 1, #[.slice none 0 0, .slice none 0 0, .slice none 0 0], 29)) (by simp)
 cases hbb : bookB ks ps es
 ·have HE : Hid (allR ks ps es L = ([], [], []) ∧ allC ks ps es L = []) := by
   show _ ∧ _
   unfold allR allC; rw [hbb]; exact ⟨rfl, rfl⟩
  clear hbb
  go_wp2_with (refine wpList_store_row rfl 29 _ _ rfl (w.heap.size + 1) #[.slice none 0 0, .slice none 0 0, .slice none 0 0] rfl rfl 29 _ hr1 (by kernel_rfl) rfl (by simp [Value.oneCell']) ?_)
  exact bodyPost_ret (v := .tuple #[.agg #[.slice none 0 0, .slice none 0 0, .slice none 0 0], .slice none 0 0]) (by simp [results, Tryz.results18, go_sem, cell_setRow_same _ _ _ _ _ _ _ hr1]) rfl ⟨_, _, _, _, rfl, by rw [HE.out.1]; exact BookNew.none _ _, by rw [HE.out.2]; exact ⟨rfl, .inl ⟨rfl, rfl⟩⟩, below_setRow L2.out.below (by omega) _⟩
 have HBB : Hid (bookB ks ps es = true) := hbb
 have HE : Hid (allR ks ps es L = stepsBk (ks, ps, es) L ∧ allC ks ps es L = codesBk (ks, ps, es) L) := by
  show _ ∧ _
  unfold allR allC; rw [hbb]; exact ⟨rfl, rfl⟩
 clear hbb hr1
 have HBO : Hid (∀ (wx : World) (v1 : Value) (Bq : Nat), Below w.heap.size w wx → ChgsAt wx v1 (chgsOf es) → wx.heap[Bq]? = some (.cells #[v1] 49 (0, 0)) → Calls Tryz.prog 27 #[.agg #[.slice ak ks.length ck, .slice ap ps.length cp], .slice (some ⟨Bq, 0, none⟩) 1 1] wx fun e w' => ∃ x y z, e = .returned (.agg #[x, y, z]) ∧ BookNew (wx.heap.size + 3) w' x y z ks ps es ∧ Below wx.heap.size wx w') := fun wx v1 Bq hx h1 hb => by
  have h := bookOf_own _ _ _ ks ps [chgsOf es] wx (HB.out.k.keep hx) (HB.out.p.keep hx) (kinds_len HBB.out).1 (kinds_len HBB.out).2 (kinds_size HBB.out).1 (kinds_size HBB.out).2 (lists_one hb h1) (by simp; omega) (by simp) (fun L hL => by simp at hL; subst hL; omega) (fun L hL c hc => by simp at hL; subst hL; exact fit_key (book_fit HBB.out c hc)) (fun L hL c hc => by simp at hL; subst hL; exact chgs_smallT SM.out.s c hc)
  rw [fold_self HBB.out] at h
  exact h
 go_wp2
 go_cut [6] (fun s6 wc => ∃ (Xq : Nat) (xv yv zv : Value), s6 = .pointer (some ⟨Xq, 0, none⟩) ∧ Hid (Below w1.heap.size w1 wc ∧ wc.heap[Xq]? = some (.cells #[xv, yv, zv] 29 (0, 0)) ∧ BookNew w1.heap.size wc xv yv zv ks ps es ∧ w1.heap.size ≤ Xq))
 case first =>
  have HSS : Hid (∀ w' : World, Below w1.heap.size w1 w' → (w'.cell? ⟨w.heap.size, 0, none⟩ = some (.slice ak ks.length ck) ∧ w'.cell? ⟨w.heap.size, 1, none⟩ = some (.slice ap ps.length cp) ∧ w'.cell? ⟨w.heap.size, 2, none⟩ = some (.slice ae es.length ce))) := fun w' hx => by
   have hl := L2.out.call hx
   exact ⟨hl.cell 0 rfl 0, hl.cell 0 rfl 1, hl.cell 0 rfl 2⟩
  refine wp_region_noPanic ?_
  refine wp_region_held_drew (S := fun w' => w'.cell? ⟨w.heap.size, 0, none⟩ = some (.slice ak ks.length ck) ∧ w'.cell? ⟨w.heap.size, 1, none⟩ = some (.slice ap ps.length cp) ∧ w'.cell? ⟨w.heap.size, 2, none⟩ = some (.slice ae es.length ce)) (by kernel_rfl) ?_ (fun hHeld => ?_)
  ·exact HSS.out _ (Below.refl _ _).drew
  have HBW : Hid (Below w1.heap.size w1 w1.drew) := (Below.refl _ _).drew
  generalize w1.drew = W0 at *
  refine tkH 0 ?_ rfl ?_ (tkH 1 ?_ rfl ?_ (tkH 2 ?_ rfl ?_ ?_))
  iterate 3 (rotate_left; focus (intro w hSw; (try dsimp only at hSw); simp only [Act.put, tkS]; go_simp; try with_reducible rfl))
  simp only [Act.put, tkS]
  clear hHeld
  refine rdH2 3 6 rfl rfl (fun K hK => ?_) (fun K hK => ?_)
  ·go_simp
   refine (HCA.out _ (below_step L2.out.below HBW.out)).mono ?_
   rintro e W1 ⟨v, rfl, hvn, hbb⟩
   have HB2 : Hid (Below w1.heap.size w1 W1) := below_step HBW.out hbb
   obtain ⟨p1, q1, rfl⟩ := own_slice hvn
   have HV1 : Hid (ChgsAt W1 (.slice p1 (chgsOf es).length q1) (chgsOf es)) := hvn.at
   refine hK.out _ _ (HSS.out _ HB2.out) (fun _ => ?_)
   clear hvn hbb
   clear hK K HBW
   have HBW := HB2
   clear HB2
   refine rdH2 4 6 rfl rfl (fun K hK => ?_) (fun K hK => ?_)
   ·go_simp
    have hbb : Below W1.heap.size W1 (W1.alloc (.cells #[.slice p1 (chgsOf es).length q1] 49)) := (Below.refl _ _).alloc (Nat.le_refl _) _
    have HB2 : Hid (Below w1.heap.size w1 (W1.alloc (.cells #[.slice p1 (chgsOf es).length q1] 49))) := below_step HBW.out hbb
    have HV12 := toHidC (HV1.out.keep hbb)
    have HSB : Hid ((W1.alloc (.cells #[.slice p1 (chgsOf es).length q1] 49)).heap[W1.heap.size]? = some (.cells #[.slice p1 (chgsOf es).length q1] 49 (0, 0))) := heap_newF W1 _
    refine hK.out _ _ (HSS.out _ HB2.out) (fun _ => ?_)
    clear hbb
    clear hK K HBW HV1
    have HBW := HB2
    clear HB2
    have HV1 := HV12
    clear HV12
    generalize (W1.alloc (.cells #[.slice p1 (chgsOf es).length q1] 49)) = W2 at *
    refine rdH2 5 6 rfl rfl (fun K hK => ?_) (fun K hK => ?_)
    ·go_simp
     refine (HBO.out _ _ _ (below_step L2.out.below HBW.out) HV1.out HSB.out).mono ?_
     rintro e W3 ⟨xq, yq, zq, rfl, hNq, hbb⟩
     have HB2 : Hid (Below w1.heap.size w1 W3) := below_step HBW.out hbb
     have HN : Hid (BookNew w1.heap.size W3 xq yq zq ks ps es) := hNq.mono (by have := HBW.out.size; omega)
     obtain ⟨d1, d2, d3, d4, d5, d6, rfl, rfl, rfl⟩ := hNq.slices
     refine hK.out _ _ (HSS.out _ HB2.out) (fun _ => ?_)
     clear hbb hNq HV1 HSB
     clear hK K HBW
     have HBW := HB2
     clear HB2
     refine rdH 6 rfl (fun K hK => ?_)
     go_simp
     have hbb : Below W3.heap.size W3 (W3.alloc (.cells #[.slice none 0 0, .slice none 0 0, .slice none 0 0] 29)) := (Below.refl _ _).alloc (Nat.le_refl _) _
     have HB2 : Hid (Below w1.heap.size w1 (W3.alloc (.cells #[.slice none 0 0, .slice none 0 0, .slice none 0 0] 29))) := below_step HBW.out hbb
     have HN2 := toHidC (HN.out.keep hbb)
     have HXB : Hid ((W3.alloc (.cells #[.slice none 0 0, .slice none 0 0, .slice none 0 0] 29)).heap[W3.heap.size]? = some (.cells #[.slice none 0 0, .slice none 0 0, .slice none 0 0] 29 (0, 0))) := heap_newF W3 _
     have HXL : Hid (w1.heap.size ≤ W3.heap.size) := HBW.out.size
     refine hK.out _ _ (HSS.out _ HB2.out) (fun _ => ?_)
     clear hbb
     clear hK K HBW HN
     have HBW := HB2
     clear HB2
     have HN := HN2
     clear HN2
     generalize (W3.alloc (.cells #[.slice none 0 0, .slice none 0 0, .slice none 0 0] 29)) = W4 at *
     refine rdH 7 rfl (fun K hK => ?_)
     refine step_store_rowC rfl 29 _ _ rfl (W3.heap.size) #[.slice d1 ks.length d2, .slice d3 ps.length d4, .slice d5 es.length d6] rfl rfl 29 _ HXB.out (by kernel_rfl) rfl (by simp [Value.oneCell']) ?_
     have HB2 : Hid (Below w1.heap.size w1 (W4.setRow (W3.heap.size) #[.slice d1 ks.length d2, .slice d3 ps.length d4, .slice d5 es.length d6])) := below_setRow HBW.out HXL.out _
     have HNF := toHidC (HN.out.box HXB.out (grown_rowF W4 (W3.heap.size) #[.slice d1 ks.length d2, .slice d3 ps.length d4, .slice d5 es.length d6]))
     have HXF : Hid ((W4.setRow (W3.heap.size) #[.slice d1 ks.length d2, .slice d3 ps.length d4, .slice d5 es.length d6]).heap[W3.heap.size]? = some (.cells #[.slice d1 ks.length d2, .slice d3 ps.length d4, .slice d5 es.length d6] 29 (0, 0))) := setRow_heap _ _ _ _ _ _ HXB.out
     refine hK.out _ _ (HSS.out _ HB2.out) (fun _ => ?_)
     clear hK K
     refine wpAnyH_done (by kernel_rfl) ?_ _
     refine NoPanic.normal ?_
     go_wp2_with fail
     go_meet
     exact ⟨W3.heap.size, _, _, _, rfl, HB2.out, HXF.out, HNF.out, HXL.out⟩
    ·go_simp
     have hbb : Below W2.heap.size W2 (W2.alloc (.cells #[.slice none 0 0, .slice none 0 0, .slice none 0 0] 29)) := (Below.refl _ _).alloc (Nat.le_refl _) _
     have HB2 : Hid (Below w1.heap.size w1 (W2.alloc (.cells #[.slice none 0 0, .slice none 0 0, .slice none 0 0] 29))) := below_step HBW.out hbb
     have HV12 := toHidC (HV1.out.keep hbb)
     have HSB2 := toHidC ((hbb.block _ (Array.getElem?_eq_some_iff.1 HSB.out).1).trans HSB.out)
     have HXB : Hid ((W2.alloc (.cells #[.slice none 0 0, .slice none 0 0, .slice none 0 0] 29)).heap[W2.heap.size]? = some (.cells #[.slice none 0 0, .slice none 0 0, .slice none 0 0] 29 (0, 0))) := heap_newF W2 _
     have HXL : Hid (w1.heap.size ≤ W2.heap.size) := HBW.out.size
     refine hK.out _ _ (HSS.out _ HB2.out) (fun _ => ?_)
     clear hbb
     clear hK K HBW HV1 HSB
     have HBW := HB2
     clear HB2
     have HV1 := HV12
     clear HV12
     have HSB := HSB2
     clear HSB2
     generalize (W2.alloc (.cells #[.slice none 0 0, .slice none 0 0, .slice none 0 0] 29)) = W3 at *
     refine rdH 5 rfl (fun K hK => ?_)
     go_simp
     refine (HBO.out _ _ _ (below_step L2.out.below HBW.out) HV1.out HSB.out).mono ?_
     rintro e W4 ⟨xq, yq, zq, rfl, hNq, hbb⟩
     have HB2 : Hid (Below w1.heap.size w1 W4) := below_step HBW.out hbb
     have HXB2 := toHidC ((hbb.block _ (Array.getElem?_eq_some_iff.1 HXB.out).1).trans HXB.out)
     have HN : Hid (BookNew w1.heap.size W4 xq yq zq ks ps es) := hNq.mono (by have := HBW.out.size; omega)
     obtain ⟨d1, d2, d3, d4, d5, d6, rfl, rfl, rfl⟩ := hNq.slices
     refine hK.out _ _ (HSS.out _ HB2.out) (fun _ => ?_)
     clear hbb hNq HV1 HSB
     clear hK K HBW HXB
     have HBW := HB2
     clear HB2
     have HXB := HXB2
     clear HXB2
     refine rdH 7 rfl (fun K hK => ?_)
     refine step_store_rowC rfl 29 _ _ rfl (W2.heap.size) #[.slice d1 ks.length d2, .slice d3 ps.length d4, .slice d5 es.length d6] rfl rfl 29 _ HXB.out (by kernel_rfl) rfl (by simp [Value.oneCell']) ?_
     have HB2 : Hid (Below w1.heap.size w1 (W4.setRow (W2.heap.size) #[.slice d1 ks.length d2, .slice d3 ps.length d4, .slice d5 es.length d6])) := below_setRow HBW.out HXL.out _
     have HNF := toHidC (HN.out.box HXB.out (grown_rowF W4 (W2.heap.size) #[.slice d1 ks.length d2, .slice d3 ps.length d4, .slice d5 es.length d6]))
     have HXF : Hid ((W4.setRow (W2.heap.size) #[.slice d1 ks.length d2, .slice d3 ps.length d4, .slice d5 es.length d6]).heap[W2.heap.size]? = some (.cells #[.slice d1 ks.length d2, .slice d3 ps.length d4, .slice d5 es.length d6] 29 (0, 0))) := setRow_heap _ _ _ _ _ _ HXB.out
     refine hK.out _ _ (HSS.out _ HB2.out) (fun _ => ?_)
     clear hK K
     refine wpAnyH_done (by kernel_rfl) ?_ _
     refine NoPanic.normal ?_
     go_wp2_with fail
     go_meet
     exact ⟨W2.heap.size, _, _, _, rfl, HB2.out, HXF.out, HNF.out, HXL.out⟩
   ·go_simp
    have hbb : Below W1.heap.size W1 (W1.alloc (.cells #[.slice none 0 0, .slice none 0 0, .slice none 0 0] 29)) := (Below.refl _ _).alloc (Nat.le_refl _) _
    have HB2 : Hid (Below w1.heap.size w1 (W1.alloc (.cells #[.slice none 0 0, .slice none 0 0, .slice none 0 0] 29))) := below_step HBW.out hbb
    have HV12 := toHidC (HV1.out.keep hbb)
    have HXB : Hid ((W1.alloc (.cells #[.slice none 0 0, .slice none 0 0, .slice none 0 0] 29)).heap[W1.heap.size]? = some (.cells #[.slice none 0 0, .slice none 0 0, .slice none 0 0] 29 (0, 0))) := heap_newF W1 _
    have HXL : Hid (w1.heap.size ≤ W1.heap.size) := HBW.out.size
    refine hK.out _ _ (HSS.out _ HB2.out) (fun _ => ?_)
    clear hbb
    clear hK K HBW HV1
    have HBW := HB2
    clear HB2
    have HV1 := HV12
    clear HV12
    generalize (W1.alloc (.cells #[.slice none 0 0, .slice none 0 0, .slice none 0 0] 29)) = W2 at *
    refine rdH 4 rfl (fun K hK => ?_)
    go_simp
    have hbb : Below W2.heap.size W2 (W2.alloc (.cells #[.slice p1 (chgsOf es).length q1] 49)) := (Below.refl _ _).alloc (Nat.le_refl _) _
    have HB2 : Hid (Below w1.heap.size w1 (W2.alloc (.cells #[.slice p1 (chgsOf es).length q1] 49))) := below_step HBW.out hbb
    have HV12 := toHidC (HV1.out.keep hbb)
    have HXB2 := toHidC ((hbb.block _ (Array.getElem?_eq_some_iff.1 HXB.out).1).trans HXB.out)
    have HSB : Hid ((W2.alloc (.cells #[.slice p1 (chgsOf es).length q1] 49)).heap[W2.heap.size]? = some (.cells #[.slice p1 (chgsOf es).length q1] 49 (0, 0))) := heap_newF W2 _
    refine hK.out _ _ (HSS.out _ HB2.out) (fun _ => ?_)
    clear hbb
    clear hK K HBW HV1 HXB
    have HBW := HB2
    clear HB2
    have HV1 := HV12
    clear HV12
    have HXB := HXB2
    clear HXB2
    generalize (W2.alloc (.cells #[.slice p1 (chgsOf es).length q1] 49)) = W3 at *
    refine rdH 5 rfl (fun K hK => ?_)
    go_simp
    refine (HBO.out _ _ _ (below_step L2.out.below HBW.out) HV1.out HSB.out).mono ?_
    rintro e W4 ⟨xq, yq, zq, rfl, hNq, hbb⟩
    have HB2 : Hid (Below w1.heap.size w1 W4) := below_step HBW.out hbb
    have HXB2 := toHidC ((hbb.block _ (Array.getElem?_eq_some_iff.1 HXB.out).1).trans HXB.out)
    have HN : Hid (BookNew w1.heap.size W4 xq yq zq ks ps es) := hNq.mono (by have := HBW.out.size; omega)
    obtain ⟨d1, d2, d3, d4, d5, d6, rfl, rfl, rfl⟩ := hNq.slices
    refine hK.out _ _ (HSS.out _ HB2.out) (fun _ => ?_)
    clear hbb hNq HV1 HSB
    clear hK K HBW HXB
    have HBW := HB2
    clear HB2
    have HXB := HXB2
    clear HXB2
    refine rdH 7 rfl (fun K hK => ?_)
    refine step_store_rowC rfl 29 _ _ rfl (W1.heap.size) #[.slice d1 ks.length d2, .slice d3 ps.length d4, .slice d5 es.length d6] rfl rfl 29 _ HXB.out (by kernel_rfl) rfl (by simp [Value.oneCell']) ?_
    have HB2 : Hid (Below w1.heap.size w1 (W4.setRow (W1.heap.size) #[.slice d1 ks.length d2, .slice d3 ps.length d4, .slice d5 es.length d6])) := below_setRow HBW.out HXL.out _
    have HNF := toHidC (HN.out.box HXB.out (grown_rowF W4 (W1.heap.size) #[.slice d1 ks.length d2, .slice d3 ps.length d4, .slice d5 es.length d6]))
    have HXF : Hid ((W4.setRow (W1.heap.size) #[.slice d1 ks.length d2, .slice d3 ps.length d4, .slice d5 es.length d6]).heap[W1.heap.size]? = some (.cells #[.slice d1 ks.length d2, .slice d3 ps.length d4, .slice d5 es.length d6] 29 (0, 0))) := setRow_heap _ _ _ _ _ _ HXB.out
    refine hK.out _ _ (HSS.out _ HB2.out) (fun _ => ?_)
    clear hK K
    refine wpAnyH_done (by kernel_rfl) ?_ _
    refine NoPanic.normal ?_
    go_wp2_with fail
    go_meet
    exact ⟨W1.heap.size, _, _, _, rfl, HB2.out, HXF.out, HNF.out, HXL.out⟩
  ·go_simp
   have hbb : Below W0.heap.size W0 (W0.alloc (.cells #[.slice none 0 0, .slice none 0 0, .slice none 0 0] 29)) := (Below.refl _ _).alloc (Nat.le_refl _) _
   have HB2 : Hid (Below w1.heap.size w1 (W0.alloc (.cells #[.slice none 0 0, .slice none 0 0, .slice none 0 0] 29))) := below_step HBW.out hbb
   have HXB : Hid ((W0.alloc (.cells #[.slice none 0 0, .slice none 0 0, .slice none 0 0] 29)).heap[W0.heap.size]? = some (.cells #[.slice none 0 0, .slice none 0 0, .slice none 0 0] 29 (0, 0))) := heap_newF W0 _
   have HXL : Hid (w1.heap.size ≤ W0.heap.size) := HBW.out.size
   refine hK.out _ _ (HSS.out _ HB2.out) (fun _ => ?_)
   clear hbb
   clear hK K HBW
   have HBW := HB2
   clear HB2
   generalize (W0.alloc (.cells #[.slice none 0 0, .slice none 0 0, .slice none 0 0] 29)) = W1 at *
   refine rdH 3 rfl (fun K hK => ?_)
   go_simp
   refine (HCA.out _ (below_step L2.out.below HBW.out)).mono ?_
   rintro e W2 ⟨v, rfl, hvn, hbb⟩
   have HB2 : Hid (Below w1.heap.size w1 W2) := below_step HBW.out hbb
   have HXB2 := toHidC ((hbb.block _ (Array.getElem?_eq_some_iff.1 HXB.out).1).trans HXB.out)
   obtain ⟨p1, q1, rfl⟩ := own_slice hvn
   have HV1 : Hid (ChgsAt W2 (.slice p1 (chgsOf es).length q1) (chgsOf es)) := hvn.at
   refine hK.out _ _ (HSS.out _ HB2.out) (fun _ => ?_)
   clear hvn hbb
   clear hK K HBW HXB
   have HBW := HB2
   clear HB2
   have HXB := HXB2
   clear HXB2
   refine rdH 4 rfl (fun K hK => ?_)
   go_simp
   have hbb : Below W2.heap.size W2 (W2.alloc (.cells #[.slice p1 (chgsOf es).length q1] 49)) := (Below.refl _ _).alloc (Nat.le_refl _) _
   have HB2 : Hid (Below w1.heap.size w1 (W2.alloc (.cells #[.slice p1 (chgsOf es).length q1] 49))) := below_step HBW.out hbb
   have HV12 := toHidC (HV1.out.keep hbb)
   have HXB2 := toHidC ((hbb.block _ (Array.getElem?_eq_some_iff.1 HXB.out).1).trans HXB.out)
   have HSB : Hid ((W2.alloc (.cells #[.slice p1 (chgsOf es).length q1] 49)).heap[W2.heap.size]? = some (.cells #[.slice p1 (chgsOf es).length q1] 49 (0, 0))) := heap_newF W2 _
   refine hK.out _ _ (HSS.out _ HB2.out) (fun _ => ?_)
   clear hbb
   clear hK K HBW HV1 HXB
   have HBW := HB2
   clear HB2
   have HV1 := HV12
   clear HV12
   have HXB := HXB2
   clear HXB2
   generalize (W2.alloc (.cells #[.slice p1 (chgsOf es).length q1] 49)) = W3 at *
   refine rdH 5 rfl (fun K hK => ?_)
   go_simp
   refine (HBO.out _ _ _ (below_step L2.out.below HBW.out) HV1.out HSB.out).mono ?_
   rintro e W4 ⟨xq, yq, zq, rfl, hNq, hbb⟩
   have HB2 : Hid (Below w1.heap.size w1 W4) := below_step HBW.out hbb
   have HXB2 := toHidC ((hbb.block _ (Array.getElem?_eq_some_iff.1 HXB.out).1).trans HXB.out)
   have HN : Hid (BookNew w1.heap.size W4 xq yq zq ks ps es) := hNq.mono (by have := HBW.out.size; omega)
   obtain ⟨d1, d2, d3, d4, d5, d6, rfl, rfl, rfl⟩ := hNq.slices
   refine hK.out _ _ (HSS.out _ HB2.out) (fun _ => ?_)
   clear hbb hNq HV1 HSB
   clear hK K HBW HXB
   have HBW := HB2
   clear HB2
   have HXB := HXB2
   clear HXB2
   refine rdH 7 rfl (fun K hK => ?_)
   refine step_store_rowC rfl 29 _ _ rfl (W0.heap.size) #[.slice d1 ks.length d2, .slice d3 ps.length d4, .slice d5 es.length d6] rfl rfl 29 _ HXB.out (by kernel_rfl) rfl (by simp [Value.oneCell']) ?_
   have HB2 : Hid (Below w1.heap.size w1 (W4.setRow (W0.heap.size) #[.slice d1 ks.length d2, .slice d3 ps.length d4, .slice d5 es.length d6])) := below_setRow HBW.out HXL.out _
   have HNF := toHidC (HN.out.box HXB.out (grown_rowF W4 (W0.heap.size) #[.slice d1 ks.length d2, .slice d3 ps.length d4, .slice d5 es.length d6]))
   have HXF : Hid ((W4.setRow (W0.heap.size) #[.slice d1 ks.length d2, .slice d3 ps.length d4, .slice d5 es.length d6]).heap[W0.heap.size]? = some (.cells #[.slice d1 ks.length d2, .slice d3 ps.length d4, .slice d5 es.length d6] 29 (0, 0))) := setRow_heap _ _ _ _ _ _ HXB.out
   refine hK.out _ _ (HSS.out _ HB2.out) (fun _ => ?_)
   clear hK K
   refine wpAnyH_done (by kernel_rfl) ?_ _
   refine NoPanic.normal ?_
   go_wp2_with fail
   go_meet
   exact ⟨W0.heap.size, _, _, _, rfl, HB2.out, HXF.out, HNF.out, HXL.out⟩
 case rest =>
  obtain ⟨X, xv, yv, zv, rfl, hq⟩ := hcut
  obtain ⟨a1, a2, a3, a4, a5, a6, rfl, rfl, rfl⟩ := hq.out.2.2.1.slices
  have HI0 : Hid (Bxs w wc [(X, #[.slice a1 ks.length a2, .slice a3 ps.length a4, .slice a5 es.length a6], 29), (w.heap.size, #[.slice ak ks.length ck, .slice ap ps.length cp, .slice ae es.length ce], 29), (w.heap.size + 1, #[.slice none 0 0, .slice none 0 0, .slice none 0 0], 29)] ∧ BookNew (w.heap.size + 2) wc (.slice a1 ks.length a2) (.slice a3 ps.length a4) (.slice a5 es.length a6) ks ps es ∧ IntsNew wc (w.heap.size + 2) (.slice none 0 0) [] ∧ w.heap.size + 2 ≤ X) := ⟨(L2.out.call hq.out.1).push hq.out.2.1, hq.out.2.2.1.mono (by omega), ⟨rfl, .inl ⟨rfl, rfl⟩⟩, by have := hq.out.2.2.2; omega⟩
  clear hq L2
  go_wp2
  generalize wc = wa at *
  go_loopw [24, 7] (fun s24 s7 wr => ∃ (k : Nat) (a1 a3 a5 : Option Addr) (a2 a4 a6 : Nat), k ≤ L.length ∧ s24 = .int .i64 k ∧ (∃ a c, s7 = .slice a k c) ∧ Hid (Bxs w wr [(X, #[.slice a1 (stepsBk (ks, ps, es) (L.take k)).1.length a2, .slice a3 (stepsBk (ks, ps, es) (L.take k)).2.1.length a4, .slice a5 (stepsBk (ks, ps, es) (L.take k)).2.2.length a6], 29), (w.heap.size, #[.slice ak ks.length ck, .slice ap ps.length cp, .slice ae es.length ce], 29), (w.heap.size + 1, #[.slice none 0 0, .slice none 0 0, .slice none 0 0], 29)] ∧ BookNew (w.heap.size + 2) wr (.slice a1 (stepsBk (ks, ps, es) (L.take k)).1.length a2) (.slice a3 (stepsBk (ks, ps, es) (L.take k)).2.1.length a4) (.slice a5 (stepsBk (ks, ps, es) (L.take k)).2.2.length a6) (stepsBk (ks, ps, es) (L.take k)).1 (stepsBk (ks, ps, es) (L.take k)).2.1 (stepsBk (ks, ps, es) (L.take k)).2.2 ∧ IntsNew wr (w.heap.size + 2) s7 (codesBk (ks, ps, es) (L.take k)) ∧ w.heap.size + 2 ≤ X)) (fun s24 _ _ => L.length - (intOf s24).toNat)
  case atStart => exact ⟨0, a1, a3, a5, a2, a4, a6, Nat.zero_le _, rfl, ⟨_, _, rfl⟩, HI0.out⟩
  case round =>
   clear HI0
   obtain ⟨k, a1, a3, a5, a2, a4, a6, hk, rfl, ⟨va, vc, rfl⟩, HI⟩ := hrel
   by_cases hlt : k < L.length
   ·obtain ⟨b, off, rfl, hc⟩ := HLA.out k _ (cat_get hlt)
    have HTS : Hid (stepsBk (ks, ps, es) (L.take (k + 1)) = stepBk (stepsBk (ks, ps, es) (L.take k)) (cat' L k) ∧ codesBk (ks, ps, es) (L.take (k + 1)) = (codesBk (ks, ps, es) (L.take k)) ++ [codeBk (stepsBk (ks, ps, es) (L.take k)) (cat' L k)]) := by
     show _ ∧ _
     rw [take_snocC hlt, stepsBk_snoc, codesBk_snoc]
     exact ⟨rfl, rfl⟩
    have HSK : Hid (SmB (stepsBk (ks, ps, es) (L.take k))) := SM.out.steps (fun c hc => HLS.out c (List.mem_of_mem_take hc))
    have hcs := HLS.out _ (List.mem_of_getElem? (cat_get hlt))
    have HCL := toHidC (show (codesBk (ks, ps, es) (L.take k)).length = k by rw [codesBk_len, List.length_take]; omega)
    obtain ⟨d0, d1, d2, d3⟩ := hc.keep HI.out.1.below (Nat.le_refl _)
    clear hc
    generalize (stepsBk (ks, ps, es) (L.take k)) = Bq at *
    generalize (codesBk (ks, ps, es) (L.take k)) = Cq at *
    generalize cat' L k = c at *
    have hk0 : (0 : Int) ≤ (k : Int) := by omega
    have hk1 : (k : Int) < (L.length : Int) := by omega
    have BC : Hid (Below wr.heap.size wr (wr.alloc (.cells #[.string c.f, .int .i64 c.what, .int .i64 c.num, .string c.v] 31))) := (Below.refl _ _).alloc (Nat.le_refl _) _
    have hXw : X < wr.heap.size := HI.out.1.lt (p := (X, #[.slice a1 Bq.1.length a2, .slice a3 Bq.2.1.length a4, .slice a5 Bq.2.2.length a6], 29)) (by simp)
    obtain ⟨t0, t1, t2⟩ : wr.cell? ⟨X, 0, none⟩ = some (.slice a1 Bq.1.length a2) ∧ wr.cell? ⟨X, 1, none⟩ = some (.slice a3 Bq.2.1.length a4) ∧ wr.cell? ⟨X, 2, none⟩ = some (.slice a5 Bq.2.2.length a6) := ⟨HI.out.1.cell 0 rfl 0, HI.out.1.cell 0 rfl 1, HI.out.1.cell 0 rfl 2⟩
    go_wp2_with fail
    refine (planTake_any _ _ _ Bq.1 Bq.2.1 Bq.2.2 c _ (HI.out.2.1.at.keep BC.out) HSK.out.n HSK.out.s HSK.out.u hcs.1 hcs.2).mono ?_
    rintro e w5 ⟨xq, yq, zq, rfl, hNq, hbb⟩
    have hN5 : BookNew (wr.alloc (.cells #[.string c.f, .int .i64 c.what, .int .i64 c.num, .string c.v] 31)).heap.size w5 xq yq zq (stepBk Bq c).1 (stepBk Bq c).2.1 (stepBk Bq c).2.2 := hNq
    obtain ⟨b1, b2, b3, b4, b5, b6, rfl, rfl, rfl⟩ := hN5.slicesB
    have hal : Below w5.heap.size w5 (w5.alloc (.cells #[.slice b1 (stepBk Bq c).1.length b2, .slice b3 (stepBk Bq c).2.1.length b4, .slice b5 (stepBk Bq c).2.2.length b6] 29)) := (Below.refl _ _).alloc (Nat.le_refl _) _
    have hbw : Below wr.heap.size wr (w5.alloc (.cells #[.slice b1 (stepBk Bq c).1.length b2, .slice b3 (stepBk Bq c).2.1.length b4, .slice b5 (stepBk Bq c).2.2.length b6] 29)) := below_step (below_step BC.out hbb) hal
    have LC : Hid (Bxs w (w5.alloc (.cells #[.slice b1 (stepBk Bq c).1.length b2, .slice b3 (stepBk Bq c).2.1.length b4, .slice b5 (stepBk Bq c).2.2.length b6] 29)) [(w5.heap.size, #[.slice b1 (stepBk Bq c).1.length b2, .slice b3 (stepBk Bq c).2.1.length b4, .slice b5 (stepBk Bq c).2.2.length b6], 29), (X, #[.slice a1 Bq.1.length a2, .slice a3 Bq.2.1.length a4, .slice a5 Bq.2.2.length a6], 29), (w.heap.size, #[.slice ak ks.length ck, .slice ap ps.length cp, .slice ae es.length ce], 29), (w.heap.size + 1, #[.slice none 0 0, .slice none 0 0, .slice none 0 0], 29)]) := (HI.out.1.call hbw).push (heap_newF w5 _)
    have NC : Hid (BookNew (w.heap.size + 2) (w5.alloc (.cells #[.slice b1 (stepBk Bq c).1.length b2, .slice b3 (stepBk Bq c).2.1.length b4, .slice b5 (stepBk Bq c).2.2.length b6] 29)) (.slice b1 (stepBk Bq c).1.length b2) (.slice b3 (stepBk Bq c).2.1.length b4) (.slice b5 (stepBk Bq c).2.2.length b6) (stepBk Bq c).1 (stepBk Bq c).2.1 (stepBk Bq c).2.2) := (hN5.keep hal).mono (by have h1 := HI.out.1.lt (p := (w.heap.size + 1, #[.slice none 0 0, .slice none 0 0, .slice none 0 0], 29)) (by simp); have h2 : w.heap.size + 1 < wr.heap.size := h1; rw [World.size_alloc]; omega)
    have IC : Hid (IntsNew (w5.alloc (.cells #[.slice b1 (stepBk Bq c).1.length b2, .slice b3 (stepBk Bq c).2.1.length b4, .slice b5 (stepBk Bq c).2.2.length b6] 29)) (w.heap.size + 2) (.slice va k vc) Cq) := ownsRow_keep HI.out.2.2.1 hbw
    have hXl : w.heap.size + 2 ≤ X := HI.out.2.2.2
    have hXY : X < w5.heap.size := by have := hbb.size; rw [World.size_alloc] at this; omega
    have hcode : takeC Bq.1 Bq.2.1 Bq.2.2 c = codeBk Bq c := rfl
    rw [hcode]
    clear hNq hN5 hbb hal hbw HI BC t0 t1 t2 d0 d1 d2 d3 hXw hcode
    go_upto_region 9 with fail
    generalize (w5.alloc (.cells #[.slice b1 (stepBk Bq c).1.length b2, .slice b3 (stepBk Bq c).2.1.length b4, .slice b5 (stepBk Bq c).2.2.length b6] 29)) = wc at *
    generalize w5.heap.size = Y at *
    obtain ⟨t0, t1, t2⟩ : wc.cell? ⟨Y, 0, none⟩ = some (.slice b1 (stepBk Bq c).1.length b2) ∧ wc.cell? ⟨Y, 1, none⟩ = some (.slice b3 (stepBk Bq c).2.1.length b4) ∧ wc.cell? ⟨Y, 2, none⟩ = some (.slice b5 (stepBk Bq c).2.2.length b6) := ⟨LC.out.cell 0 rfl 0, LC.out.cell 0 rfl 1, LC.out.cell 0 rfl 2⟩
    have hrX := LC.out.has (X, #[.slice a1 Bq.1.length a2, .slice a3 Bq.2.1.length a4, .slice a5 Bq.2.2.length a6], 29) (by simp)
    dsimp only at hrX
    have hYz : Y < wc.heap.size := LC.out.lt (p := (Y, #[.slice b1 (stepBk Bq c).1.length b2, .slice b3 (stepBk Bq c).2.1.length b4, .slice b5 (stepBk Bq c).2.2.length b6], 29)) (by simp)
    have LD : Hid (Bxs w (wc.setRow X #[.slice b1 (stepBk Bq c).1.length b2, .slice b3 (stepBk Bq c).2.1.length b4, .slice b5 (stepBk Bq c).2.2.length b6]) [(X, #[.slice b1 (stepBk Bq c).1.length b2, .slice b3 (stepBk Bq c).2.1.length b4, .slice b5 (stepBk Bq c).2.2.length b6], 29), (w.heap.size, #[.slice ak ks.length ck, .slice ap ps.length cp, .slice ae es.length ce], 29), (w.heap.size + 1, #[.slice none 0 0, .slice none 0 0, .slice none 0 0], 29)]) := by
     refine ⟨below_setRow LC.out.below (by omega) _, fun p hp => ?_⟩
     have hz0 := LC.out.lt (p := (w.heap.size + 1, #[.slice none 0 0, .slice none 0 0, .slice none 0 0], 29)) (by simp)
     simp only [List.mem_cons, List.not_mem_nil, or_false] at hp
     rcases hp with rfl | rfl | rfl
     ·exact setRow_heap _ _ _ _ _ _ hrX
     ·exact (setRow_other _ _ _ _ (by show w.heap.size ≠ X; omega)).trans (LC.out.has (w.heap.size, #[.slice ak ks.length ck, .slice ap ps.length cp, .slice ae es.length ce], 29) (by simp))
     ·exact (setRow_other _ _ _ _ (by show w.heap.size + 1 ≠ X; omega)).trans (LC.out.has (w.heap.size + 1, #[.slice none 0 0, .slice none 0 0, .slice none 0 0], 29) (by simp))
    have ND : Hid (BookNew (w.heap.size + 2) (wc.setRow X #[.slice b1 (stepBk Bq c).1.length b2, .slice b3 (stepBk Bq c).2.1.length b4, .slice b5 (stepBk Bq c).2.2.length b6]) (.slice b1 (stepBk Bq c).1.length b2) (.slice b3 (stepBk Bq c).2.1.length b4) (.slice b5 (stepBk Bq c).2.2.length b6) (stepBk Bq c).1 (stepBk Bq c).2.1 (stepBk Bq c).2.2) := NC.out.box hrX (grown_rowF wc X _)
    have ID : Hid (IntsNew (wc.setRow X #[.slice b1 (stepBk Bq c).1.length b2, .slice b3 (stepBk Bq c).2.1.length b4, .slice b5 (stepBk Bq c).2.2.length b6]) (w.heap.size + 2) (.slice va k vc) Cq) := ownsRow_farF IC.out (grown_rowF wc X _) (fun q hq e => own_other IC.out hrX (by decide) (by rw [← e]; exact hq.symm))
    clear NC IC
    go_upto_region 10 with (refine wpList_store_row rfl 29 _ _ rfl X #[.slice b1 (stepBk Bq c).1.length b2, .slice b3 (stepBk Bq c).2.1.length b4, .slice b5 (stepBk Bq c).2.2.length b6] rfl rfl 29 _ hrX (by kernel_rfl) rfl (by simp [Value.oneCell']) ?_)
    generalize wc.setRow X #[.slice b1 (stepBk Bq c).1.length b2, .slice b3 (stepBk Bq c).2.1.length b4, .slice b5 (stepBk Bq c).2.2.length b6] = wd at *
    clear t0 t1 t2 hrX LC hYz hXY
    have hzd : w.heap.size + 1 < wd.heap.size := LD.out.lt (p := (w.heap.size + 1, #[.slice none 0 0, .slice none 0 0, .slice none 0 0], 29)) (by simp)
    have hid := ID.out
    unfold IntsNew at hid
    rw [HCL.out] at hid
    go_wp2_with (at_builtin; refine wpList_append_any _ rfl _ _ 52 rfl (w.heap.size + 2) 3 i0 _ 1 8 Tryz.underlying52 hi0 hz0 hz1 hz2 rfl (by decide) _ k _ rfl (ownsRow_keep hid ((Below.refl _ _).alloc (Nat.le_refl _) _)) _ 1 1 [.int .i64 (codeBk Bq c)] rfl (.inr ⟨_, rfl, World.news_of_block (heap_newF wd (.cells #[.int .i64 (codeBk Bq c)] 3))⟩) rfl (fun u hu => by simp at hu; subst hu; rfl) (by unfold maxLen; omega) (by omega) (by simp; omega) ?_; intro vq wx hown hgrow hat)
    have hke : Below wd.heap.size wd (wd.alloc (.cells #[.int .i64 (codeBk Bq c)] 3)) := (Below.refl _ _).alloc (Nat.le_refl _) _
    have hok := ownsRow_keep hid hke
    have LF : Hid (Bxs w wx [(X, #[.slice b1 (stepBk Bq c).1.length b2, .slice b3 (stepBk Bq c).2.1.length b4, .slice b5 (stepBk Bq c).2.2.length b6], 29), (w.heap.size, #[.slice ak ks.length ck, .slice ap ps.length cp, .slice ae es.length ce], 29), (w.heap.size + 1, #[.slice none 0 0, .slice none 0 0, .slice none 0 0], 29)]) := (LD.out.call hke).grownI hok (by omega) hgrow (fun p hp => by simp only [List.mem_cons, List.not_mem_nil, or_false] at hp; rcases hp with rfl | rfl | rfl <;> (show 3 ≠ 29; decide))
    have NF : Hid (BookNew (w.heap.size + 2) wx (.slice b1 (stepBk Bq c).1.length b2) (.slice b3 (stepBk Bq c).2.1.length b4) (.slice b5 (stepBk Bq c).2.2.length b6) (stepBk Bq c).1 (stepBk Bq c).2.1 (stepBk Bq c).2.2) := (ND.out.keep hke).ints hok hgrow
    have IF : Hid (IntsNew wx (w.heap.size + 2) vq (Cq ++ [codeBk Bq c])) := IntsNew.snoc (by rw [HCL.out]; exact hown)
    obtain ⟨qa, qc, rfl⟩ := own_slice hown
    have HF : Hid (Bxs w wx [(X, #[.slice b1 (stepsBk (ks, ps, es) (L.take (k + 1))).1.length b2, .slice b3 (stepsBk (ks, ps, es) (L.take (k + 1))).2.1.length b4, .slice b5 (stepsBk (ks, ps, es) (L.take (k + 1))).2.2.length b6], 29), (w.heap.size, #[.slice ak ks.length ck, .slice ap ps.length cp, .slice ae es.length ce], 29), (w.heap.size + 1, #[.slice none 0 0, .slice none 0 0, .slice none 0 0], 29)] ∧ BookNew (w.heap.size + 2) wx (.slice b1 (stepsBk (ks, ps, es) (L.take (k + 1))).1.length b2) (.slice b3 (stepsBk (ks, ps, es) (L.take (k + 1))).2.1.length b4) (.slice b5 (stepsBk (ks, ps, es) (L.take (k + 1))).2.2.length b6) (stepsBk (ks, ps, es) (L.take (k + 1))).1 (stepsBk (ks, ps, es) (L.take (k + 1))).2.1 (stepsBk (ks, ps, es) (L.take (k + 1))).2.2 ∧ IntsNew wx (w.heap.size + 2) (.slice qa (k + 1) qc) (codesBk (ks, ps, es) (L.take (k + 1))) ∧ w.heap.size + 2 ≤ X) := by
     rw [HTS.out.1, HTS.out.2]
     exact ⟨LF.out, NF.out, IF.out, hXl⟩
    exact ⟨⟨k + 1, b1, b3, b5, b2, b4, b6, by omega, by go_num, ⟨_, _, rfl⟩, HF⟩, by simp [intOf]; omega⟩
   ·have HF : Hid (Bxs w wr [(X, #[.slice a1 (stepsBk (ks, ps, es) L).1.length a2, .slice a3 (stepsBk (ks, ps, es) L).2.1.length a4, .slice a5 (stepsBk (ks, ps, es) L).2.2.length a6], 29), (w.heap.size, #[.slice ak ks.length ck, .slice ap ps.length cp, .slice ae es.length ce], 29), (w.heap.size + 1, #[.slice none 0 0, .slice none 0 0, .slice none 0 0], 29)] ∧ BookNew (w.heap.size + 2) wr (.slice a1 (stepsBk (ks, ps, es) L).1.length a2) (.slice a3 (stepsBk (ks, ps, es) L).2.1.length a4) (.slice a5 (stepsBk (ks, ps, es) L).2.2.length a6) (stepsBk (ks, ps, es) L).1 (stepsBk (ks, ps, es) L).2.1 (stepsBk (ks, ps, es) L).2.2 ∧ IntsNew wr (w.heap.size + 2) (.slice va k vc) (codesBk (ks, ps, es) L) ∧ w.heap.size + 2 ≤ X) := by
     have h := HI.out
     rw [List.take_of_length_le (show L.length ≤ k by omega)] at h
     exact h
    clear HI
    obtain ⟨t0, t1, t2⟩ : wr.cell? ⟨X, 0, none⟩ = some (.slice a1 (stepsBk (ks, ps, es) L).1.length a2) ∧ wr.cell? ⟨X, 1, none⟩ = some (.slice a3 (stepsBk (ks, ps, es) L).2.1.length a4) ∧ wr.cell? ⟨X, 2, none⟩ = some (.slice a5 (stepsBk (ks, ps, es) L).2.2.length a6) := ⟨HF.out.1.cell 0 rfl 0, HF.out.1.cell 0 rfl 1, HF.out.1.cell 0 rfl 2⟩
    have hr := HF.out.1.has (w.heap.size + 1, #[.slice none 0 0, .slice none 0 0, .slice none 0 0], 29) (by simp)
    dsimp only at hr
    generalize stepsBk (ks, ps, es) L = Bq at *
    go_wp2_with (refine wpList_store_row rfl 29 _ _ rfl (w.heap.size + 1) #[.slice a1 Bq.1.length a2, .slice a3 Bq.2.1.length a4, .slice a5 Bq.2.2.length a6] rfl rfl 29 _ hr (by kernel_rfl) rfl (by simp [Value.oneCell']) ?_)
    exact bodyPost_ret (v := .tuple #[.agg #[.slice a1 Bq.1.length a2, .slice a3 Bq.2.1.length a4, .slice a5 Bq.2.2.length a6], .slice va k vc]) (by simp [results, Tryz.results18, go_sem, cell_setRow_same _ _ _ _ _ _ _ hr]) rfl ⟨_, _, _, _, rfl, by rw [HE.out.1]; exact (HF.out.2.1.far (grown_rowF wr (w.heap.size + 1) _) (by omega)).mono (by omega), by rw [HE.out.2]; exact own_mono (ownsRow_farF HF.out.2.2.1 (grown_rowF wr (w.heap.size + 1) _) (fun q hq e => by have := own_ge HF.out.2.2.1 q hq; injection e; omega)) (by omega), below_setRow HF.out.1.below (by omega) _⟩
end Go.Proofs.YtibpkhmiahamcaaGreat
