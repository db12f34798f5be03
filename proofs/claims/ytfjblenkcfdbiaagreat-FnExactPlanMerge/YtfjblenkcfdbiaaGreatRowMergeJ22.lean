/-
  For the proof of merge_holds: part 22 (MrgI, SameS).
-/
import Derived.Test.YtfjblenkcfdbiaaGreatRowMergeJ21
/-
  impl: two books together.
-/
namespace Go.Proofs.YtfjblenkcfdbiaaGreat
open Go.RowKit
set_option linter.unusedSimpArgs false
set_option linter.unusedVariables false

theorem three_cellsM {w : World} {b : Nat} {x y z : Value} {T : TypeId} (h : w.heap[b]? = some (.cells #[x, y, z] T (0, 0))) : w.cell? ⟨b, 0, none⟩ = some x ∧ w.cell? ⟨b, 1, none⟩ = some y ∧ w.cell? ⟨b, 2, none⟩ = some z := by simp [World.cell?, h]
set_option maxRecDepth 100000 in
set_option maxHeartbeats 12800000 in
theorem planMerge_any (vk vp ve uk up ue : Value) (ks ps ks' ps' : List Tri) (es es' : List Ent) (w : World) (hA : BookAt w vk vp ve ks ps es) (hB : BookAt w uk up ue ks' ps' es') (nA : BNames ks ps es) (nB : BNames ks' ps' es') (sA : BSmall ks ps es) (sB : BSmall ks' ps' es') (hszA : sumN (fun e => e.fs.length) es ≤ 1048576) (hszB : sumN (fun e => e.fs.length) es' ≤ 1048576) :
    Calls Tryz.prog 16 #[.agg #[vk, vp, ve], .agg #[uk, up, ue]] w fun e w' => ∃ x y z, e = .returned (.tuple #[.agg #[x, y, z], .int .i64 (mrgC ks ps ks' ps' es es')]) ∧ BookNew w.heap.size w' x y z (mrgT ks ps ks' ps' es es' ks) (mrgT ks ps ks' ps' es es' ps) (mrgE ks ps ks' ps' es es') ∧ Below w.heap.size w w' := by
  have HA : Hid (BookAt w vk vp ve ks ps es) := hA
  have HB : Hid (BookAt w uk up ue ks' ps' es') := hB
  have NN : Hid (BNames ks ps es ∧ BNames ks' ps' es') := ⟨nA, nB⟩
  have SS : Hid (BSmall ks ps es ∧ BSmall ks' ps' es') := ⟨sA, sB⟩
  obtain ⟨⟨ak, ck, rfl, -, -, -⟩, ⟨ap, cp, rfl, -, -, -⟩, ⟨ae, ce, rfl, -, -, -⟩⟩ := hA
  obtain ⟨⟨ak', ck', rfl, -, -, -⟩, ⟨ap', cp', rfl, -, -, -⟩, ⟨ae', ce', rfl, -, -, he3⟩⟩ := hB
  have HEB : Hid (∀ i e, es'[i]? = some e → ∃ b off, ae' = some ⟨b, off, none⟩ ∧ EntAt w b (off + i * 2) e) := he3
  clear nA nB sA sB he3
  have HCA : Hid (∀ wx : World, Below w.heap.size w wx → Calls Tryz.prog 32 #[.agg #[.slice ak ks.length ck, .slice ap ps.length cp, .slice ae es.length ce]] wx fun e w' => ∃ v, e = .returned v ∧ ChgsNew w' wx.heap.size v (chgsOf es) ∧ Below wx.heap.size wx w') := fun wx hx => changesOf_any _ _ _ es wx (HA.out.keep hx).e hszA SS.out.1.e
  have HCB : Hid (∀ wx : World, Below w.heap.size w wx → Calls Tryz.prog 32 #[.agg #[.slice ak' ks'.length ck', .slice ap' ps'.length cp', .slice ae' es'.length ce']] wx fun e w' => ∃ v, e = .returned v ∧ ChgsNew w' wx.heap.size v (chgsOf es') ∧ Below wx.heap.size wx w') := fun wx hx => changesOf_any _ _ _ es' wx (HB.out.keep hx).e hszB SS.out.2.e
  have hlA : (chgsOf es).length ≤ 1048576 := by rw [chgsOf_len]; exact hszA
  have hlB : (chgsOf es').length ≤ 1048576 := by rw [chgsOf_len]; exact hszB
  go_enter Tryz.func16, Tryz.ntmps16
  have HX0 : Hid (Blk3 w _ _ _ _) := Blk3.start w (.cells #[.slice ak ks.length ck, .slice ap ps.length cp, .slice ae es.length ce] 39) (.cells #[.slice ak' ks'.length ck', .slice ap' ps'.length cp', .slice ae' es'.length ce'] 39) (.cells #[.slice none 0 0, .slice none 0 0, .slice none 0 0] 39)
  go_wp2_with fail
  refine (bookOk_any _ _ _ ks ps es _ (HA.out.keep HX0.out.below) NN.out.1 SS.out.1).mono ?_
  rintro e w1 ⟨rfl, hb1⟩
  have HX1 : Hid (Blk3 w w1 (.cells #[.slice ak ks.length ck, .slice ap ps.length cp, .slice ae es.length ce] 39) (.cells #[.slice ak' ks'.length ck', .slice ap' ps'.length cp', .slice ae' es'.length ce'] 39) (.cells #[.slice none 0 0, .slice none 0 0, .slice none 0 0] 39)) := HX0.out.call hb1
  clear HX0 hb1
  obtain ⟨y0, y1, y2⟩ : w1.cell? ⟨w.heap.size, 0, none⟩ = some (.slice ak ks.length ck) ∧ w1.cell? ⟨w.heap.size, 1, none⟩ = some (.slice ap ps.length cp) ∧ w1.cell? ⟨w.heap.size, 2, none⟩ = some (.slice ae es.length ce) := by simp [World.cell?, HX1.out.b0]
  obtain ⟨z0, z1, z2⟩ : w1.cell? ⟨w.heap.size + 1, 0, none⟩ = some (.slice ak' ks'.length ck') ∧ w1.cell? ⟨w.heap.size + 1, 1, none⟩ = some (.slice ap' ps'.length cp') ∧ w1.cell? ⟨w.heap.size + 1, 2, none⟩ = some (.slice ae' es'.length ce') := by simp [World.cell?, HX1.out.b1]
  have hq1 := HX1.out.z
  have HNO : Hid (mrgOk ks ps ks' ps' es es' = false → mrgT ks ps ks' ps' es es' ks = [] ∧ mrgT ks ps ks' ps' es es' ps = [] ∧ mrgE ks ps ks' ps' es es' = []) := fun h => by
    unfold mrgT mrgE; rw [h]; exact ⟨rfl, rfl, rfl⟩
  cases hbb : bookB ks ps es
  · have HE : Hid (mrgC ks ps ks' ps' es es' = 1 ∧ mrgT ks ps ks' ps' es es' ks = [] ∧ mrgT ks ps ks' ps' es es' ps = [] ∧ mrgE ks ps ks' ps' es es' = []) := ⟨by unfold mrgC; rw [hbb]; rfl, HNO.out (by unfold mrgOk; rw [hbb]; rfl)⟩
    clear hbb
    go_wp2_with (refine wpList_store_row rfl 39 _ _ rfl (w.heap.size + 1 + 1) #[.slice none 0 0, .slice none 0 0, .slice none 0 0] rfl rfl 39 _ HX1.out.b2 (by kernel_rfl) rfl (by simp [Value.oneCell']) ?_)
    exact bodyPost_ret (v := .tuple #[.agg #[.slice none 0 0, .slice none 0 0, .slice none 0 0], .int .i64 1]) (by simp [results, Tryz.results16, go_sem, cell_setRow_same _ _ _ _ _ _ _ HX1.out.b2]) rfl ⟨_, _, _, by rw [HE.out.1], by rw [HE.out.2.1, HE.out.2.2.1, HE.out.2.2.2]; exact BookNew.none _ _, below_setRow HX1.out.below (by omega) _⟩
  have HBB : Hid (bookB ks ps es = true) := hbb
  clear hbb
  go_wp2_with fail
  refine (bookOk_any _ _ _ ks' ps' es' _ (HB.out.keep HX1.out.below) NN.out.2 SS.out.2).mono ?_
  rintro e w2 ⟨rfl, hb2⟩
  have HX2 : Hid (Blk3 w w2 (.cells #[.slice ak ks.length ck, .slice ap ps.length cp, .slice ae es.length ce] 39) (.cells #[.slice ak' ks'.length ck', .slice ap' ps'.length cp', .slice ae' es'.length ce'] 39) (.cells #[.slice none 0 0, .slice none 0 0, .slice none 0 0] 39)) := HX1.out.call hb2
  clear HX1 hb2 y0 y1 y2 z0 z1 z2
  obtain ⟨y0, y1, y2⟩ : w2.cell? ⟨w.heap.size, 0, none⟩ = some (.slice ak ks.length ck) ∧ w2.cell? ⟨w.heap.size, 1, none⟩ = some (.slice ap ps.length cp) ∧ w2.cell? ⟨w.heap.size, 2, none⟩ = some (.slice ae es.length ce) := by simp [World.cell?, HX2.out.b0]
  obtain ⟨z0, z1, z2⟩ : w2.cell? ⟨w.heap.size + 1, 0, none⟩ = some (.slice ak' ks'.length ck') ∧ w2.cell? ⟨w.heap.size + 1, 1, none⟩ = some (.slice ap' ps'.length cp') ∧ w2.cell? ⟨w.heap.size + 1, 2, none⟩ = some (.slice ae' es'.length ce') := by simp [World.cell?, HX2.out.b1]
  have hq2 := HX2.out.z
  cases hbb : bookB ks' ps' es'
  · have HE : Hid (mrgC ks ps ks' ps' es es' = 1 ∧ mrgT ks ps ks' ps' es es' ks = [] ∧ mrgT ks ps ks' ps' es es' ps = [] ∧ mrgE ks ps ks' ps' es es' = []) := ⟨by unfold mrgC; rw [HBB.out, hbb]; rfl, HNO.out (by unfold mrgOk; rw [HBB.out, hbb]; rfl)⟩
    clear hbb
    go_wp2_with (refine wpList_store_row rfl 39 _ _ rfl (w.heap.size + 1 + 1) #[.slice none 0 0, .slice none 0 0, .slice none 0 0] rfl rfl 39 _ HX2.out.b2 (by kernel_rfl) rfl (by simp [Value.oneCell']) ?_)
    exact bodyPost_ret (v := .tuple #[.agg #[.slice none 0 0, .slice none 0 0, .slice none 0 0], .int .i64 1]) (by simp [results, Tryz.results16, go_sem, cell_setRow_same _ _ _ _ _ _ _ HX2.out.b2]) rfl ⟨_, _, _, by rw [HE.out.1], by rw [HE.out.2.1, HE.out.2.2.1, HE.out.2.2.2]; exact BookNew.none _ _, below_setRow HX2.out.below (by omega) _⟩
  have HBC : Hid (bookB ks' ps' es' = true) := hbb
  clear hbb
  go_wp2_with fail
  refine (sameBase_any _ _ _ _ ks ps ks' ps' _ (HA.out.k.keep HX2.out.below) (HA.out.p.keep HX2.out.below) (HB.out.k.keep HX2.out.below) (HB.out.p.keep HX2.out.below) SS.out.1.k SS.out.1.p).mono ?_
  rintro e w3 ⟨rfl, hb3⟩
  have HX3 : Hid (Blk3 w w3 (.cells #[.slice ak ks.length ck, .slice ap ps.length cp, .slice ae es.length ce] 39) (.cells #[.slice ak' ks'.length ck', .slice ap' ps'.length cp', .slice ae' es'.length ce'] 39) (.cells #[.slice none 0 0, .slice none 0 0, .slice none 0 0] 39)) := HX2.out.call hb3
  clear HX2 hb3 y0 y1 y2 z0 z1 z2
  obtain ⟨y0, y1, y2⟩ : w3.cell? ⟨w.heap.size, 0, none⟩ = some (.slice ak ks.length ck) ∧ w3.cell? ⟨w.heap.size, 1, none⟩ = some (.slice ap ps.length cp) ∧ w3.cell? ⟨w.heap.size, 2, none⟩ = some (.slice ae es.length ce) := by simp [World.cell?, HX3.out.b0]
  obtain ⟨z0, z1, z2⟩ : w3.cell? ⟨w.heap.size + 1, 0, none⟩ = some (.slice ak' ks'.length ck') ∧ w3.cell? ⟨w.heap.size + 1, 1, none⟩ = some (.slice ap' ps'.length cp') ∧ w3.cell? ⟨w.heap.size + 1, 2, none⟩ = some (.slice ae' es'.length ce') := by simp [World.cell?, HX3.out.b1]
  have hq3 := HX3.out.z
  cases hsm : sameBs ks ks' ps ps'
  · have HE : Hid (mrgC ks ps ks' ps' es es' = 2 ∧ mrgT ks ps ks' ps' es es' ks = [] ∧ mrgT ks ps ks' ps' es es' ps = [] ∧ mrgE ks ps ks' ps' es es' = []) := ⟨by unfold mrgC; rw [HBB.out, HBC.out, hsm]; rfl, HNO.out (by unfold mrgOk; rw [HBB.out, HBC.out, hsm]; rfl)⟩
    clear hsm
    go_wp2_with (refine wpList_store_row rfl 39 _ _ rfl (w.heap.size + 1 + 1) #[.slice none 0 0, .slice none 0 0, .slice none 0 0] rfl rfl 39 _ HX3.out.b2 (by kernel_rfl) rfl (by simp [Value.oneCell']) ?_)
    exact bodyPost_ret (v := .tuple #[.agg #[.slice none 0 0, .slice none 0 0, .slice none 0 0], .int .i64 2]) (by simp [results, Tryz.results16, go_sem, cell_setRow_same _ _ _ _ _ _ _ HX3.out.b2]) rfl ⟨_, _, _, by rw [HE.out.1], by rw [HE.out.2.1, HE.out.2.2.1, HE.out.2.2.2]; exact BookNew.none _ _, below_setRow HX3.out.below (by omega) _⟩
  have HSM : Hid (sameBs ks ks' ps ps' = true) := hsm
  clear hsm
  have HYES : Hid (¬ 12 < (putEs es (chgsOf es')).length → mrgC ks ps ks' ps' es es' = 0 ∧ mrgT ks ps ks' ps' es es' ks = ks ∧ mrgT ks ps ks' ps' es es' ps = ps ∧ mrgE ks ps ks' ps' es es' = putEs es (chgsOf es')) := fun h => by
    have h0 : decide (12 < (putEs es (chgsOf es')).length) = false := by simpa using h
    have h1 : mrgOk ks ps ks' ps' es es' = true := by unfold mrgOk; rw [HBB.out, HBC.out, HSM.out, h0]; rfl
    refine ⟨by unfold mrgC; rw [HBB.out, HBC.out, HSM.out, h0]; rfl, by unfold mrgT; rw [h1]; rfl, by unfold mrgT; rw [h1]; rfl, by unfold mrgE; rw [h1]; rfl⟩
  have HNY : Hid (12 < (putEs es (chgsOf es')).length → mrgC ks ps ks' ps' es es' = 3 ∧ mrgT ks ps ks' ps' es es' ks = [] ∧ mrgT ks ps ks' ps' es es' ps = [] ∧ mrgE ks ps ks' ps' es es' = []) := fun h => by
    have h0 : decide (12 < (putEs es (chgsOf es')).length) = true := by simpa using h
    exact ⟨by unfold mrgC; rw [HBB.out, HBC.out, HSM.out, h0]; rfl, HNO.out (by unfold mrgOk; rw [HBB.out, HBC.out, HSM.out, h0]; rfl)⟩
  have HBO : Hid (∀ (wx : World) (v1 v2 : Value) (Bq : Nat), Below w.heap.size w wx → ChgsAt wx v1 (chgsOf es) → ChgsAt wx v2 (chgsOf es') → wx.heap[Bq]? = some (.cells #[v1, v2] 50 (0, 0)) → Calls Tryz.prog 34 #[.agg #[.slice ak ks.length ck, .slice ap ps.length cp], .slice (some ⟨Bq, 0, none⟩) 2 2] wx fun e w' => ∃ x y z, e = .returned (.agg #[x, y, z]) ∧ BookNew (wx.heap.size + 3) w' x y z ks ps (putEs es (chgsOf es')) ∧ Below wx.heap.size wx w') := fun wx v1 v2 Bq hx h1 h2 hb => by
    have h := bookOf_own _ _ _ ks ps [chgsOf es, chgsOf es'] wx (HA.out.k.keep hx) (HA.out.p.keep hx) (kinds_len HBB.out).1 (kinds_len HBB.out).2 (kinds_size HBB.out).1 (kinds_size HBB.out).2 (lists_two hb h1 h2) (by simp; omega) (by simp) (fun L hL => by simp at hL; rcases hL with rfl | rfl <;> omega) (fun L hL c hc => by simp at hL; rcases hL with rfl | rfl; exact fit_key (book_fit HBB.out c hc); exact fit_key (book_fit HBC.out c hc)) (fun L hL c hc => by simp at hL; rcases hL with rfl | rfl; exact chgs_smallT SS.out.1 c hc; exact chgs_smallT SS.out.2 c hc)
    rw [fold_two HBB.out HBC.out] at h
    exact h
  clear y0 y1 y2 z0 z1 z2
  go_wp2
  go_cut [6] (fun s6 wc => ∃ (Xq : Nat) (xv yv zv : Value), s6 = .pointer (some ⟨Xq, 0, none⟩) ∧ Hid (Below w3.heap.size w3 wc ∧ wc.heap[Xq]? = some (.cells #[xv, yv, zv] 39 (0, 0)) ∧ BookNew w3.heap.size wc xv yv zv ks ps (putEs es (chgsOf es')) ∧ w3.heap.size ≤ Xq))
  case first =>
    have HSS : Hid (∀ w' : World, Below w3.heap.size w3 w' → ((w'.cell? ⟨w.heap.size, 0, none⟩ = some (.slice ak ks.length ck) ∧ w'.cell? ⟨w.heap.size, 1, none⟩ = some (.slice ap ps.length cp) ∧ w'.cell? ⟨w.heap.size, 2, none⟩ = some (.slice ae es.length ce)) ∧ (w'.cell? ⟨w.heap.size + 1, 0, none⟩ = some (.slice ak' ks'.length ck') ∧ w'.cell? ⟨w.heap.size + 1, 1, none⟩ = some (.slice ap' ps'.length cp') ∧ w'.cell? ⟨w.heap.size + 1, 2, none⟩ = some (.slice ae' es'.length ce')))) := fun w' hx => by
      have hl := HX3.out.call hx
      exact ⟨three_cellsM hl.b0, three_cellsM hl.b1⟩
    refine wp_region_noPanic ?_
    refine wp_region_held_drew (S := fun w' => (w'.cell? ⟨w.heap.size, 0, none⟩ = some (.slice ak ks.length ck) ∧ w'.cell? ⟨w.heap.size, 1, none⟩ = some (.slice ap ps.length cp) ∧ w'.cell? ⟨w.heap.size, 2, none⟩ = some (.slice ae es.length ce)) ∧ (w'.cell? ⟨w.heap.size + 1, 0, none⟩ = some (.slice ak' ks'.length ck') ∧ w'.cell? ⟨w.heap.size + 1, 1, none⟩ = some (.slice ap' ps'.length cp') ∧ w'.cell? ⟨w.heap.size + 1, 2, none⟩ = some (.slice ae' es'.length ce'))) (by kernel_rfl) ?_ (fun hHeld => ?_)
    · exact HSS.out _ (Below.refl _ _).drew
    have HBW : Hid (Below w3.heap.size w3 w3.drew) := (Below.refl _ _).drew
    generalize w3.drew = W0 at *
    refine wpAnyH_take (i := 0) (v := ?_) rfl (by kernel_rfl) (by kernel_rfl) (by kernel_rfl) (fun _ _ _ h => h) (Or.inl ⟨by rfl, ?_⟩) (by assumption) ?_
    rotate_left
    · intro w hSw; (try dsimp only at hSw); go_simp; try with_reducible rfl
    simp only [Act.put, List.setIfInBounds_toArray, List.set_cons_zero, List.set_cons_succ, List.getElem_toArray, List.getElem_cons_succ, List.getElem_cons_zero]
    refine wpAnyH_take (i := 1) (v := ?_) rfl (by kernel_rfl) (by kernel_rfl) (by kernel_rfl) (fun _ _ _ h => h) (Or.inl ⟨by rfl, ?_⟩) (by assumption) ?_
    rotate_left
    · intro w hSw; (try dsimp only at hSw); go_simp; try with_reducible rfl
    simp only [Act.put, List.setIfInBounds_toArray, List.set_cons_zero, List.set_cons_succ, List.getElem_toArray, List.getElem_cons_succ, List.getElem_cons_zero]
    refine wpAnyH_take (i := 2) (v := ?_) rfl (by kernel_rfl) (by kernel_rfl) (by kernel_rfl) (fun _ _ _ h => h) (Or.inl ⟨by rfl, ?_⟩) (by assumption) ?_
    rotate_left
    · intro w hSw; (try dsimp only at hSw); go_simp; try with_reducible rfl
    simp only [Act.put, List.setIfInBounds_toArray, List.set_cons_zero, List.set_cons_succ, List.getElem_toArray, List.getElem_cons_succ, List.getElem_cons_zero]
    refine wpAnyH_take (i := 4) (v := ?_) rfl (by kernel_rfl) (by kernel_rfl) (by kernel_rfl) (fun _ _ _ h => h) (Or.inl ⟨by rfl, ?_⟩) (by assumption) ?_
    rotate_left
    · intro w hSw; (try dsimp only at hSw); go_simp; try with_reducible rfl
    simp only [Act.put, List.setIfInBounds_toArray, List.set_cons_zero, List.set_cons_succ, List.getElem_toArray, List.getElem_cons_succ, List.getElem_cons_zero]
    clear hHeld
    refine wpAnyH_ready (rs := [3, 8]) (by kernel_rfl) (by simp) ?_
    refine AllReadyH.cons rfl (fun K hK => ?_) (AllReadyH.cons rfl (fun K hK => ?_) AllReadyH.nil)
    · go_simp
      refine (HCA.out _ (below_step HX3.out.below HBW.out)).mono ?_
      rintro e W1 ⟨v, rfl, hvn, hbb⟩
      have HB2 : Hid (Below w3.heap.size w3 W1) := below_step HBW.out hbb
      obtain ⟨p1, q1, rfl⟩ := own_slice hvn
      have HV1 : Hid (ChgsAt W1 (.slice p1 (chgsOf es).length q1) (chgsOf es)) := hvn.at
      refine hK.out _ _ (HSS.out _ HB2.out) (fun _ => ?_)
      clear hvn hbb
      clear hK K HBW
      have HBW := HB2
      clear HB2
      refine wpAnyH_ready (rs := [5, 8]) (by kernel_rfl) (by simp) ?_
      refine AllReadyH.cons rfl (fun K hK => ?_) (AllReadyH.cons rfl (fun K hK => ?_) AllReadyH.nil)
      · go_simp
        refine (HCB.out _ (below_step HX3.out.below HBW.out)).mono ?_
        rintro e W2 ⟨v, rfl, hvn, hbb⟩
        have HB2 : Hid (Below w3.heap.size w3 W2) := below_step HBW.out hbb
        have HV12 := toHidC (HV1.out.keep hbb)
        obtain ⟨p2, q2, rfl⟩ := own_slice hvn
        have HV2 : Hid (ChgsAt W2 (.slice p2 (chgsOf es').length q2) (chgsOf es')) := hvn.at
        refine hK.out _ _ (HSS.out _ HB2.out) (fun _ => ?_)
        clear hvn hbb
        clear hK K HBW HV1
        have HBW := HB2
        clear HB2
        have HV1 := HV12
        clear HV12
        refine wpAnyH_ready (rs := [6, 8]) (by kernel_rfl) (by simp) ?_
        refine AllReadyH.cons rfl (fun K hK => ?_) (AllReadyH.cons rfl (fun K hK => ?_) AllReadyH.nil)
        · go_simp
          have hbb : Below W2.heap.size W2 (W2.alloc (.cells #[.slice p1 (chgsOf es).length q1, .slice p2 (chgsOf es').length q2] 50)) := (Below.refl _ _).alloc (Nat.le_refl _) _
          have HB2 : Hid (Below w3.heap.size w3 (W2.alloc (.cells #[.slice p1 (chgsOf es).length q1, .slice p2 (chgsOf es').length q2] 50))) := below_step HBW.out hbb
          have HV12 := toHidC (HV1.out.keep hbb)
          have HV22 := toHidC (HV2.out.keep hbb)
          have HSB : Hid ((W2.alloc (.cells #[.slice p1 (chgsOf es).length q1, .slice p2 (chgsOf es').length q2] 50)).heap[W2.heap.size]? = some (.cells #[.slice p1 (chgsOf es).length q1, .slice p2 (chgsOf es').length q2] 50 (0, 0))) := heap_newF W2 _
          refine hK.out _ _ (HSS.out _ HB2.out) (fun _ => ?_)
          clear hbb
          clear hK K HBW HV1 HV2
          have HBW := HB2
          clear HB2
          have HV1 := HV12
          clear HV12
          have HV2 := HV22
          clear HV22
          generalize (W2.alloc (.cells #[.slice p1 (chgsOf es).length q1, .slice p2 (chgsOf es').length q2] 50)) = W3 at *
          refine wpAnyH_ready (rs := [7, 8]) (by kernel_rfl) (by simp) ?_
          refine AllReadyH.cons rfl (fun K hK => ?_) (AllReadyH.cons rfl (fun K hK => ?_) AllReadyH.nil)
          · go_simp
            refine (HBO.out _ _ _ _ (below_step HX3.out.below HBW.out) HV1.out HV2.out HSB.out).mono ?_
            rintro e W4 ⟨xq, yq, zq, rfl, hNq, hbb⟩
            have HB2 : Hid (Below w3.heap.size w3 W4) := below_step HBW.out hbb
            have HN : Hid (BookNew w3.heap.size W4 xq yq zq ks ps (putEs es (chgsOf es'))) := hNq.mono (by have := HBW.out.size; omega)
            obtain ⟨a1, c1, a2, c2, a3, c3, rfl, rfl, rfl⟩ := hNq.slices
            refine hK.out _ _ (HSS.out _ HB2.out) (fun _ => ?_)
            clear hbb hNq HV1 HV2 HSB
            clear hK K HBW
            have HBW := HB2
            clear HB2
            refine wpAnyH_ready (rs := [8]) (by kernel_rfl) (by simp) ?_
            refine AllReadyH.cons rfl (fun K hK => ?_) AllReadyH.nil
            go_simp
            have hbb : Below W4.heap.size W4 (W4.alloc (.cells #[.slice none 0 0, .slice none 0 0, .slice none 0 0] 39)) := (Below.refl _ _).alloc (Nat.le_refl _) _
            have HB2 : Hid (Below w3.heap.size w3 (W4.alloc (.cells #[.slice none 0 0, .slice none 0 0, .slice none 0 0] 39))) := below_step HBW.out hbb
            have HN2 := toHidC (HN.out.keep hbb)
            have HXB : Hid ((W4.alloc (.cells #[.slice none 0 0, .slice none 0 0, .slice none 0 0] 39)).heap[W4.heap.size]? = some (.cells #[.slice none 0 0, .slice none 0 0, .slice none 0 0] 39 (0, 0))) := heap_newF W4 _
            have HXL : Hid (w3.heap.size ≤ W4.heap.size) := HBW.out.size
            refine hK.out _ _ (HSS.out _ HB2.out) (fun _ => ?_)
            clear hbb
            clear hK K HBW HN
            have HBW := HB2
            clear HB2
            have HN := HN2
            clear HN2
            generalize (W4.alloc (.cells #[.slice none 0 0, .slice none 0 0, .slice none 0 0] 39)) = W5 at *
            refine wpAnyH_ready (rs := [9]) (by kernel_rfl) (by simp) ?_
            refine AllReadyH.cons rfl (fun K hK => ?_) AllReadyH.nil
            refine step_store_rowC rfl 39 _ _ rfl (W4.heap.size) #[.slice a1 ks.length c1, .slice a2 ps.length c2, .slice a3 (putEs es (chgsOf es')).length c3] rfl rfl 39 _ HXB.out (by kernel_rfl) rfl (by simp [Value.oneCell']) ?_
            have HB2 : Hid (Below w3.heap.size w3 (W5.setRow (W4.heap.size) #[.slice a1 ks.length c1, .slice a2 ps.length c2, .slice a3 (putEs es (chgsOf es')).length c3])) := below_setRow HBW.out HXL.out _
            have HNF := toHidC (HN.out.box HXB.out (grown_rowF W5 (W4.heap.size) #[.slice a1 ks.length c1, .slice a2 ps.length c2, .slice a3 (putEs es (chgsOf es')).length c3]))
            have HXF : Hid ((W5.setRow (W4.heap.size) #[.slice a1 ks.length c1, .slice a2 ps.length c2, .slice a3 (putEs es (chgsOf es')).length c3]).heap[W4.heap.size]? = some (.cells #[.slice a1 ks.length c1, .slice a2 ps.length c2, .slice a3 (putEs es (chgsOf es')).length c3] 39 (0, 0))) := setRow_heap _ _ _ _ _ _ HXB.out
            refine hK.out _ _ (HSS.out _ HB2.out) (fun _ => ?_)
            clear hK K
            refine wpAnyH_done (by kernel_rfl) ?_ _
            refine NoPanic.normal ?_
            go_wp2_with fail
            go_meet
            exact ⟨W4.heap.size, _, _, _, rfl, HB2.out, HXF.out, HNF.out, HXL.out⟩
          · go_simp
            have hbb : Below W3.heap.size W3 (W3.alloc (.cells #[.slice none 0 0, .slice none 0 0, .slice none 0 0] 39)) := (Below.refl _ _).alloc (Nat.le_refl _) _
            have HB2 : Hid (Below w3.heap.size w3 (W3.alloc (.cells #[.slice none 0 0, .slice none 0 0, .slice none 0 0] 39))) := below_step HBW.out hbb
            have HV12 := toHidC (HV1.out.keep hbb)
            have HV22 := toHidC (HV2.out.keep hbb)
            have HSB2 := toHidC ((hbb.block _ (Array.getElem?_eq_some_iff.1 HSB.out).1).trans HSB.out)
            have HXB : Hid ((W3.alloc (.cells #[.slice none 0 0, .slice none 0 0, .slice none 0 0] 39)).heap[W3.heap.size]? = some (.cells #[.slice none 0 0, .slice none 0 0, .slice none 0 0] 39 (0, 0))) := heap_newF W3 _
            have HXL : Hid (w3.heap.size ≤ W3.heap.size) := HBW.out.size
            refine hK.out _ _ (HSS.out _ HB2.out) (fun _ => ?_)
            clear hbb
            clear hK K HBW HV1 HV2 HSB
            have HBW := HB2
            clear HB2
            have HV1 := HV12
            clear HV12
            have HV2 := HV22
            clear HV22
            have HSB := HSB2
            clear HSB2
            generalize (W3.alloc (.cells #[.slice none 0 0, .slice none 0 0, .slice none 0 0] 39)) = W4 at *
            refine wpAnyH_ready (rs := [7]) (by kernel_rfl) (by simp) ?_
            refine AllReadyH.cons rfl (fun K hK => ?_) AllReadyH.nil
            go_simp
            refine (HBO.out _ _ _ _ (below_step HX3.out.below HBW.out) HV1.out HV2.out HSB.out).mono ?_
            rintro e W5 ⟨xq, yq, zq, rfl, hNq, hbb⟩
            have HB2 : Hid (Below w3.heap.size w3 W5) := below_step HBW.out hbb
            have HXB2 := toHidC ((hbb.block _ (Array.getElem?_eq_some_iff.1 HXB.out).1).trans HXB.out)
            have HN : Hid (BookNew w3.heap.size W5 xq yq zq ks ps (putEs es (chgsOf es'))) := hNq.mono (by have := HBW.out.size; omega)
            obtain ⟨a1, c1, a2, c2, a3, c3, rfl, rfl, rfl⟩ := hNq.slices
            refine hK.out _ _ (HSS.out _ HB2.out) (fun _ => ?_)
            clear hbb hNq HV1 HV2 HSB
            clear hK K HBW HXB
            have HBW := HB2
            clear HB2
            have HXB := HXB2
            clear HXB2
            refine wpAnyH_ready (rs := [9]) (by kernel_rfl) (by simp) ?_
            refine AllReadyH.cons rfl (fun K hK => ?_) AllReadyH.nil
            refine step_store_rowC rfl 39 _ _ rfl (W3.heap.size) #[.slice a1 ks.length c1, .slice a2 ps.length c2, .slice a3 (putEs es (chgsOf es')).length c3] rfl rfl 39 _ HXB.out (by kernel_rfl) rfl (by simp [Value.oneCell']) ?_
            have HB2 : Hid (Below w3.heap.size w3 (W5.setRow (W3.heap.size) #[.slice a1 ks.length c1, .slice a2 ps.length c2, .slice a3 (putEs es (chgsOf es')).length c3])) := below_setRow HBW.out HXL.out _
            have HNF := toHidC (HN.out.box HXB.out (grown_rowF W5 (W3.heap.size) #[.slice a1 ks.length c1, .slice a2 ps.length c2, .slice a3 (putEs es (chgsOf es')).length c3]))
            have HXF : Hid ((W5.setRow (W3.heap.size) #[.slice a1 ks.length c1, .slice a2 ps.length c2, .slice a3 (putEs es (chgsOf es')).length c3]).heap[W3.heap.size]? = some (.cells #[.slice a1 ks.length c1, .slice a2 ps.length c2, .slice a3 (putEs es (chgsOf es')).length c3] 39 (0, 0))) := setRow_heap _ _ _ _ _ _ HXB.out
            refine hK.out _ _ (HSS.out _ HB2.out) (fun _ => ?_)
            clear hK K
            refine wpAnyH_done (by kernel_rfl) ?_ _
            refine NoPanic.normal ?_
            go_wp2_with fail
            go_meet
            exact ⟨W3.heap.size, _, _, _, rfl, HB2.out, HXF.out, HNF.out, HXL.out⟩
        · go_simp
          have hbb : Below W2.heap.size W2 (W2.alloc (.cells #[.slice none 0 0, .slice none 0 0, .slice none 0 0] 39)) := (Below.refl _ _).alloc (Nat.le_refl _) _
          have HB2 : Hid (Below w3.heap.size w3 (W2.alloc (.cells #[.slice none 0 0, .slice none 0 0, .slice none 0 0] 39))) := below_step HBW.out hbb
          have HV12 := toHidC (HV1.out.keep hbb)
          have HV22 := toHidC (HV2.out.keep hbb)
          have HXB : Hid ((W2.alloc (.cells #[.slice none 0 0, .slice none 0 0, .slice none 0 0] 39)).heap[W2.heap.size]? = some (.cells #[.slice none 0 0, .slice none 0 0, .slice none 0 0] 39 (0, 0))) := heap_newF W2 _
          have HXL : Hid (w3.heap.size ≤ W2.heap.size) := HBW.out.size
          refine hK.out _ _ (HSS.out _ HB2.out) (fun _ => ?_)
          clear hbb
          clear hK K HBW HV1 HV2
          have HBW := HB2
          clear HB2
          have HV1 := HV12
          clear HV12
          have HV2 := HV22
          clear HV22
          generalize (W2.alloc (.cells #[.slice none 0 0, .slice none 0 0, .slice none 0 0] 39)) = W3 at *
          refine wpAnyH_ready (rs := [6]) (by kernel_rfl) (by simp) ?_
          refine AllReadyH.cons rfl (fun K hK => ?_) AllReadyH.nil
          go_simp
          have hbb : Below W3.heap.size W3 (W3.alloc (.cells #[.slice p1 (chgsOf es).length q1, .slice p2 (chgsOf es').length q2] 50)) := (Below.refl _ _).alloc (Nat.le_refl _) _
          have HB2 : Hid (Below w3.heap.size w3 (W3.alloc (.cells #[.slice p1 (chgsOf es).length q1, .slice p2 (chgsOf es').length q2] 50))) := below_step HBW.out hbb
          have HV12 := toHidC (HV1.out.keep hbb)
          have HV22 := toHidC (HV2.out.keep hbb)
          have HXB2 := toHidC ((hbb.block _ (Array.getElem?_eq_some_iff.1 HXB.out).1).trans HXB.out)
          have HSB : Hid ((W3.alloc (.cells #[.slice p1 (chgsOf es).length q1, .slice p2 (chgsOf es').length q2] 50)).heap[W3.heap.size]? = some (.cells #[.slice p1 (chgsOf es).length q1, .slice p2 (chgsOf es').length q2] 50 (0, 0))) := heap_newF W3 _
          refine hK.out _ _ (HSS.out _ HB2.out) (fun _ => ?_)
          clear hbb
          clear hK K HBW HV1 HV2 HXB
          have HBW := HB2
          clear HB2
          have HV1 := HV12
          clear HV12
          have HV2 := HV22
          clear HV22
          have HXB := HXB2
          clear HXB2
          generalize (W3.alloc (.cells #[.slice p1 (chgsOf es).length q1, .slice p2 (chgsOf es').length q2] 50)) = W4 at *
          refine wpAnyH_ready (rs := [7]) (by kernel_rfl) (by simp) ?_
          refine AllReadyH.cons rfl (fun K hK => ?_) AllReadyH.nil
          go_simp
          refine (HBO.out _ _ _ _ (below_step HX3.out.below HBW.out) HV1.out HV2.out HSB.out).mono ?_
          rintro e W5 ⟨xq, yq, zq, rfl, hNq, hbb⟩
          have HB2 : Hid (Below w3.heap.size w3 W5) := below_step HBW.out hbb
          have HXB2 := toHidC ((hbb.block _ (Array.getElem?_eq_some_iff.1 HXB.out).1).trans HXB.out)
          have HN : Hid (BookNew w3.heap.size W5 xq yq zq ks ps (putEs es (chgsOf es'))) := hNq.mono (by have := HBW.out.size; omega)
          obtain ⟨a1, c1, a2, c2, a3, c3, rfl, rfl, rfl⟩ := hNq.slices
          refine hK.out _ _ (HSS.out _ HB2.out) (fun _ => ?_)
          clear hbb hNq HV1 HV2 HSB
          clear hK K HBW HXB
          have HBW := HB2
          clear HB2
          have HXB := HXB2
          clear HXB2
          refine wpAnyH_ready (rs := [9]) (by kernel_rfl) (by simp) ?_
          refine AllReadyH.cons rfl (fun K hK => ?_) AllReadyH.nil
          refine step_store_rowC rfl 39 _ _ rfl (W2.heap.size) #[.slice a1 ks.length c1, .slice a2 ps.length c2, .slice a3 (putEs es (chgsOf es')).length c3] rfl rfl 39 _ HXB.out (by kernel_rfl) rfl (by simp [Value.oneCell']) ?_
          have HB2 : Hid (Below w3.heap.size w3 (W5.setRow (W2.heap.size) #[.slice a1 ks.length c1, .slice a2 ps.length c2, .slice a3 (putEs es (chgsOf es')).length c3])) := below_setRow HBW.out HXL.out _
          have HNF := toHidC (HN.out.box HXB.out (grown_rowF W5 (W2.heap.size) #[.slice a1 ks.length c1, .slice a2 ps.length c2, .slice a3 (putEs es (chgsOf es')).length c3]))
          have HXF : Hid ((W5.setRow (W2.heap.size) #[.slice a1 ks.length c1, .slice a2 ps.length c2, .slice a3 (putEs es (chgsOf es')).length c3]).heap[W2.heap.size]? = some (.cells #[.slice a1 ks.length c1, .slice a2 ps.length c2, .slice a3 (putEs es (chgsOf es')).length c3] 39 (0, 0))) := setRow_heap _ _ _ _ _ _ HXB.out
          refine hK.out _ _ (HSS.out _ HB2.out) (fun _ => ?_)
          clear hK K
          refine wpAnyH_done (by kernel_rfl) ?_ _
          refine NoPanic.normal ?_
          go_wp2_with fail
          go_meet
          exact ⟨W2.heap.size, _, _, _, rfl, HB2.out, HXF.out, HNF.out, HXL.out⟩
      · go_simp
        have hbb : Below W1.heap.size W1 (W1.alloc (.cells #[.slice none 0 0, .slice none 0 0, .slice none 0 0] 39)) := (Below.refl _ _).alloc (Nat.le_refl _) _
        have HB2 : Hid (Below w3.heap.size w3 (W1.alloc (.cells #[.slice none 0 0, .slice none 0 0, .slice none 0 0] 39))) := below_step HBW.out hbb
        have HV12 := toHidC (HV1.out.keep hbb)
        have HXB : Hid ((W1.alloc (.cells #[.slice none 0 0, .slice none 0 0, .slice none 0 0] 39)).heap[W1.heap.size]? = some (.cells #[.slice none 0 0, .slice none 0 0, .slice none 0 0] 39 (0, 0))) := heap_newF W1 _
        have HXL : Hid (w3.heap.size ≤ W1.heap.size) := HBW.out.size
        refine hK.out _ _ (HSS.out _ HB2.out) (fun _ => ?_)
        clear hbb
        clear hK K HBW HV1
        have HBW := HB2
        clear HB2
        have HV1 := HV12
        clear HV12
        generalize (W1.alloc (.cells #[.slice none 0 0, .slice none 0 0, .slice none 0 0] 39)) = W2 at *
        refine wpAnyH_ready (rs := [5]) (by kernel_rfl) (by simp) ?_
        refine AllReadyH.cons rfl (fun K hK => ?_) AllReadyH.nil
        go_simp
        refine (HCB.out _ (below_step HX3.out.below HBW.out)).mono ?_
        rintro e W3 ⟨v, rfl, hvn, hbb⟩
        have HB2 : Hid (Below w3.heap.size w3 W3) := below_step HBW.out hbb
        have HV12 := toHidC (HV1.out.keep hbb)
        have HXB2 := toHidC ((hbb.block _ (Array.getElem?_eq_some_iff.1 HXB.out).1).trans HXB.out)
        obtain ⟨p2, q2, rfl⟩ := own_slice hvn
        have HV2 : Hid (ChgsAt W3 (.slice p2 (chgsOf es').length q2) (chgsOf es')) := hvn.at
        refine hK.out _ _ (HSS.out _ HB2.out) (fun _ => ?_)
        clear hvn hbb
        clear hK K HBW HV1 HXB
        have HBW := HB2
        clear HB2
        have HV1 := HV12
        clear HV12
        have HXB := HXB2
        clear HXB2
        refine wpAnyH_ready (rs := [6]) (by kernel_rfl) (by simp) ?_
        refine AllReadyH.cons rfl (fun K hK => ?_) AllReadyH.nil
        go_simp
        have hbb : Below W3.heap.size W3 (W3.alloc (.cells #[.slice p1 (chgsOf es).length q1, .slice p2 (chgsOf es').length q2] 50)) := (Below.refl _ _).alloc (Nat.le_refl _) _
        have HB2 : Hid (Below w3.heap.size w3 (W3.alloc (.cells #[.slice p1 (chgsOf es).length q1, .slice p2 (chgsOf es').length q2] 50))) := below_step HBW.out hbb
        have HV12 := toHidC (HV1.out.keep hbb)
        have HV22 := toHidC (HV2.out.keep hbb)
        have HXB2 := toHidC ((hbb.block _ (Array.getElem?_eq_some_iff.1 HXB.out).1).trans HXB.out)
        have HSB : Hid ((W3.alloc (.cells #[.slice p1 (chgsOf es).length q1, .slice p2 (chgsOf es').length q2] 50)).heap[W3.heap.size]? = some (.cells #[.slice p1 (chgsOf es).length q1, .slice p2 (chgsOf es').length q2] 50 (0, 0))) := heap_newF W3 _
        refine hK.out _ _ (HSS.out _ HB2.out) (fun _ => ?_)
        clear hbb
        clear hK K HBW HV1 HV2 HXB
        have HBW := HB2
        clear HB2
        have HV1 := HV12
        clear HV12
        have HV2 := HV22
        clear HV22
        have HXB := HXB2
        clear HXB2
        generalize (W3.alloc (.cells #[.slice p1 (chgsOf es).length q1, .slice p2 (chgsOf es').length q2] 50)) = W4 at *
        refine wpAnyH_ready (rs := [7]) (by kernel_rfl) (by simp) ?_
        refine AllReadyH.cons rfl (fun K hK => ?_) AllReadyH.nil
        go_simp
        refine (HBO.out _ _ _ _ (below_step HX3.out.below HBW.out) HV1.out HV2.out HSB.out).mono ?_
        rintro e W5 ⟨xq, yq, zq, rfl, hNq, hbb⟩
        have HB2 : Hid (Below w3.heap.size w3 W5) := below_step HBW.out hbb
        have HXB2 := toHidC ((hbb.block _ (Array.getElem?_eq_some_iff.1 HXB.out).1).trans HXB.out)
        have HN : Hid (BookNew w3.heap.size W5 xq yq zq ks ps (putEs es (chgsOf es'))) := hNq.mono (by have := HBW.out.size; omega)
        obtain ⟨a1, c1, a2, c2, a3, c3, rfl, rfl, rfl⟩ := hNq.slices
        refine hK.out _ _ (HSS.out _ HB2.out) (fun _ => ?_)
        clear hbb hNq HV1 HV2 HSB
        clear hK K HBW HXB
        have HBW := HB2
        clear HB2
        have HXB := HXB2
        clear HXB2
        refine wpAnyH_ready (rs := [9]) (by kernel_rfl) (by simp) ?_
        refine AllReadyH.cons rfl (fun K hK => ?_) AllReadyH.nil
        refine step_store_rowC rfl 39 _ _ rfl (W1.heap.size) #[.slice a1 ks.length c1, .slice a2 ps.length c2, .slice a3 (putEs es (chgsOf es')).length c3] rfl rfl 39 _ HXB.out (by kernel_rfl) rfl (by simp [Value.oneCell']) ?_
        have HB2 : Hid (Below w3.heap.size w3 (W5.setRow (W1.heap.size) #[.slice a1 ks.length c1, .slice a2 ps.length c2, .slice a3 (putEs es (chgsOf es')).length c3])) := below_setRow HBW.out HXL.out _
        have HNF := toHidC (HN.out.box HXB.out (grown_rowF W5 (W1.heap.size) #[.slice a1 ks.length c1, .slice a2 ps.length c2, .slice a3 (putEs es (chgsOf es')).length c3]))
        have HXF : Hid ((W5.setRow (W1.heap.size) #[.slice a1 ks.length c1, .slice a2 ps.length c2, .slice a3 (putEs es (chgsOf es')).length c3]).heap[W1.heap.size]? = some (.cells #[.slice a1 ks.length c1, .slice a2 ps.length c2, .slice a3 (putEs es (chgsOf es')).length c3] 39 (0, 0))) := setRow_heap _ _ _ _ _ _ HXB.out
        refine hK.out _ _ (HSS.out _ HB2.out) (fun _ => ?_)
        clear hK K
        refine wpAnyH_done (by kernel_rfl) ?_ _
        refine NoPanic.normal ?_
        go_wp2_with fail
        go_meet
        exact ⟨W1.heap.size, _, _, _, rfl, HB2.out, HXF.out, HNF.out, HXL.out⟩
    · go_simp
      have hbb : Below W0.heap.size W0 (W0.alloc (.cells #[.slice none 0 0, .slice none 0 0, .slice none 0 0] 39)) := (Below.refl _ _).alloc (Nat.le_refl _) _
      have HB2 : Hid (Below w3.heap.size w3 (W0.alloc (.cells #[.slice none 0 0, .slice none 0 0, .slice none 0 0] 39))) := below_step HBW.out hbb
      have HXB : Hid ((W0.alloc (.cells #[.slice none 0 0, .slice none 0 0, .slice none 0 0] 39)).heap[W0.heap.size]? = some (.cells #[.slice none 0 0, .slice none 0 0, .slice none 0 0] 39 (0, 0))) := heap_newF W0 _
      have HXL : Hid (w3.heap.size ≤ W0.heap.size) := HBW.out.size
      refine hK.out _ _ (HSS.out _ HB2.out) (fun _ => ?_)
      clear hbb
      clear hK K HBW
      have HBW := HB2
      clear HB2
      generalize (W0.alloc (.cells #[.slice none 0 0, .slice none 0 0, .slice none 0 0] 39)) = W1 at *
      refine wpAnyH_ready (rs := [3]) (by kernel_rfl) (by simp) ?_
      refine AllReadyH.cons rfl (fun K hK => ?_) AllReadyH.nil
      go_simp
      refine (HCA.out _ (below_step HX3.out.below HBW.out)).mono ?_
      rintro e W2 ⟨v, rfl, hvn, hbb⟩
      have HB2 : Hid (Below w3.heap.size w3 W2) := below_step HBW.out hbb
      have HXB2 := toHidC ((hbb.block _ (Array.getElem?_eq_some_iff.1 HXB.out).1).trans HXB.out)
      obtain ⟨p1, q1, rfl⟩ := own_slice hvn
      have HV1 : Hid (ChgsAt W2 (.slice p1 (chgsOf es).length q1) (chgsOf es)) := hvn.at
      refine hK.out _ _ (HSS.out _ HB2.out) (fun _ => ?_)
      clear hvn hbb
      clear hK K HBW HXB
      have HBW := HB2
      clear HB2
      have HXB := HXB2
      clear HXB2
      refine wpAnyH_ready (rs := [5]) (by kernel_rfl) (by simp) ?_
      refine AllReadyH.cons rfl (fun K hK => ?_) AllReadyH.nil
      go_simp
      refine (HCB.out _ (below_step HX3.out.below HBW.out)).mono ?_
      rintro e W3 ⟨v, rfl, hvn, hbb⟩
      have HB2 : Hid (Below w3.heap.size w3 W3) := below_step HBW.out hbb
      have HV12 := toHidC (HV1.out.keep hbb)
      have HXB2 := toHidC ((hbb.block _ (Array.getElem?_eq_some_iff.1 HXB.out).1).trans HXB.out)
      obtain ⟨p2, q2, rfl⟩ := own_slice hvn
      have HV2 : Hid (ChgsAt W3 (.slice p2 (chgsOf es').length q2) (chgsOf es')) := hvn.at
      refine hK.out _ _ (HSS.out _ HB2.out) (fun _ => ?_)
      clear hvn hbb
      clear hK K HBW HV1 HXB
      have HBW := HB2
      clear HB2
      have HV1 := HV12
      clear HV12
      have HXB := HXB2
      clear HXB2
      refine wpAnyH_ready (rs := [6]) (by kernel_rfl) (by simp) ?_
      refine AllReadyH.cons rfl (fun K hK => ?_) AllReadyH.nil
      go_simp
      have hbb : Below W3.heap.size W3 (W3.alloc (.cells #[.slice p1 (chgsOf es).length q1, .slice p2 (chgsOf es').length q2] 50)) := (Below.refl _ _).alloc (Nat.le_refl _) _
      have HB2 : Hid (Below w3.heap.size w3 (W3.alloc (.cells #[.slice p1 (chgsOf es).length q1, .slice p2 (chgsOf es').length q2] 50))) := below_step HBW.out hbb
      have HV12 := toHidC (HV1.out.keep hbb)
      have HV22 := toHidC (HV2.out.keep hbb)
      have HXB2 := toHidC ((hbb.block _ (Array.getElem?_eq_some_iff.1 HXB.out).1).trans HXB.out)
      have HSB : Hid ((W3.alloc (.cells #[.slice p1 (chgsOf es).length q1, .slice p2 (chgsOf es').length q2] 50)).heap[W3.heap.size]? = some (.cells #[.slice p1 (chgsOf es).length q1, .slice p2 (chgsOf es').length q2] 50 (0, 0))) := heap_newF W3 _
      refine hK.out _ _ (HSS.out _ HB2.out) (fun _ => ?_)
      clear hbb
      clear hK K HBW HV1 HV2 HXB
      have HBW := HB2
      clear HB2
      have HV1 := HV12
      clear HV12
      have HV2 := HV22
      clear HV22
      have HXB := HXB2
      clear HXB2
      generalize (W3.alloc (.cells #[.slice p1 (chgsOf es).length q1, .slice p2 (chgsOf es').length q2] 50)) = W4 at *
      refine wpAnyH_ready (rs := [7]) (by kernel_rfl) (by simp) ?_
      refine AllReadyH.cons rfl (fun K hK => ?_) AllReadyH.nil
      go_simp
      refine (HBO.out _ _ _ _ (below_step HX3.out.below HBW.out) HV1.out HV2.out HSB.out).mono ?_
      rintro e W5 ⟨xq, yq, zq, rfl, hNq, hbb⟩
      have HB2 : Hid (Below w3.heap.size w3 W5) := below_step HBW.out hbb
      have HXB2 := toHidC ((hbb.block _ (Array.getElem?_eq_some_iff.1 HXB.out).1).trans HXB.out)
      have HN : Hid (BookNew w3.heap.size W5 xq yq zq ks ps (putEs es (chgsOf es'))) := hNq.mono (by have := HBW.out.size; omega)
      obtain ⟨a1, c1, a2, c2, a3, c3, rfl, rfl, rfl⟩ := hNq.slices
      refine hK.out _ _ (HSS.out _ HB2.out) (fun _ => ?_)
      clear hbb hNq HV1 HV2 HSB
      clear hK K HBW HXB
      have HBW := HB2
      clear HB2
      have HXB := HXB2
      clear HXB2
      refine wpAnyH_ready (rs := [9]) (by kernel_rfl) (by simp) ?_
      refine AllReadyH.cons rfl (fun K hK => ?_) AllReadyH.nil
      refine step_store_rowC rfl 39 _ _ rfl (W0.heap.size) #[.slice a1 ks.length c1, .slice a2 ps.length c2, .slice a3 (putEs es (chgsOf es')).length c3] rfl rfl 39 _ HXB.out (by kernel_rfl) rfl (by simp [Value.oneCell']) ?_
      have HB2 : Hid (Below w3.heap.size w3 (W5.setRow (W0.heap.size) #[.slice a1 ks.length c1, .slice a2 ps.length c2, .slice a3 (putEs es (chgsOf es')).length c3])) := below_setRow HBW.out HXL.out _
      have HNF := toHidC (HN.out.box HXB.out (grown_rowF W5 (W0.heap.size) #[.slice a1 ks.length c1, .slice a2 ps.length c2, .slice a3 (putEs es (chgsOf es')).length c3]))
      have HXF : Hid ((W5.setRow (W0.heap.size) #[.slice a1 ks.length c1, .slice a2 ps.length c2, .slice a3 (putEs es (chgsOf es')).length c3]).heap[W0.heap.size]? = some (.cells #[.slice a1 ks.length c1, .slice a2 ps.length c2, .slice a3 (putEs es (chgsOf es')).length c3] 39 (0, 0))) := setRow_heap _ _ _ _ _ _ HXB.out
      refine hK.out _ _ (HSS.out _ HB2.out) (fun _ => ?_)
      clear hK K
      refine wpAnyH_done (by kernel_rfl) ?_ _
      refine NoPanic.normal ?_
      go_wp2_with fail
      go_meet
      exact ⟨W0.heap.size, _, _, _, rfl, HB2.out, HXF.out, HNF.out, HXL.out⟩
  case rest =>
    obtain ⟨X, xv, yv, zv, rfl, hq⟩ := hcut
    have HX4 : Hid (Blk3 w wc (.cells #[.slice ak ks.length ck, .slice ap ps.length cp, .slice ae es.length ce] 39) (.cells #[.slice ak' ks'.length ck', .slice ap' ps'.length cp', .slice ae' es'.length ce'] 39) (.cells #[.slice none 0 0, .slice none 0 0, .slice none 0 0] 39)) := HX3.out.call hq.out.1
    obtain ⟨a1, c1, a2, c2, a3, c3, rfl, rfl, rfl⟩ := hq.out.2.2.1.slices
    have HN4 : Hid (BookNew w3.heap.size wc (.slice a1 ks.length c1) (.slice a2 ps.length c2) (.slice a3 (putEs es (chgsOf es')).length c3) ks ps (putEs es (chgsOf es'))) := hq.out.2.2.1
    have HT4 := toHidC hq.out.2.1
    have hX4 : X < wc.heap.size := (Array.getElem?_eq_some_iff.1 HT4.out).1
    clear hq HX3
    obtain ⟨t0, t1, t2⟩ := three_cellsM HT4.out
    have hr4 := HX4.out.b2
    by_cases h12 : 12 < (putEs es (chgsOf es')).length
    · have h12' : (12 : Int) < ((putEs es (chgsOf es')).length : Int) := by omega
      have HE : Hid (mrgC ks ps ks' ps' es es' = 3 ∧ mrgT ks ps ks' ps' es es' ks = [] ∧ mrgT ks ps ks' ps' es es' ps = [] ∧ mrgE ks ps ks' ps' es es' = []) := HNY.out h12
      clear h12
      go_wp2_with (refine wpList_store_row rfl 39 _ _ rfl (w.heap.size + 1 + 1) #[.slice none 0 0, .slice none 0 0, .slice none 0 0] rfl rfl 39 _ HX4.out.b2 (by kernel_rfl) rfl (by simp [Value.oneCell']) ?_)
      exact bodyPost_ret (v := .tuple #[.agg #[.slice none 0 0, .slice none 0 0, .slice none 0 0], .int .i64 3]) (by simp [results, Tryz.results16, go_sem, cell_setRow_same _ _ _ _ _ _ _ HX4.out.b2]) rfl ⟨_, _, _, by rw [HE.out.1], by rw [HE.out.2.1, HE.out.2.2.1, HE.out.2.2.2]; exact BookNew.none _ _, below_setRow HX4.out.below (by omega) _⟩
    · have h12' : ¬ (12 : Int) < ((putEs es (chgsOf es')).length : Int) := by omega
      have HE : Hid (mrgC ks ps ks' ps' es es' = 0 ∧ mrgT ks ps ks' ps' es es' ks = ks ∧ mrgT ks ps ks' ps' es es' ps = ps ∧ mrgE ks ps ks' ps' es es' = putEs es (chgsOf es')) := HYES.out h12
      clear h12
      generalize putEs es (chgsOf es') = es2 at *
      go_wp2_with (refine wpList_store_row rfl 39 _ _ rfl (w.heap.size + 1 + 1) #[.slice a1 ks.length c1, .slice a2 ps.length c2, .slice a3 es2.length c3] rfl rfl 39 _ hr4 (by kernel_rfl) rfl (by simp [Value.oneCell']) ?_)
      exact bodyPost_ret (v := .tuple #[.agg #[.slice a1 ks.length c1, .slice a2 ps.length c2, .slice a3 es2.length c3], .int .i64 0]) (by simp [results, Tryz.results16, go_sem, cell_setRow_same _ _ _ _ _ _ _ hr4]) rfl ⟨_, _, _, by rw [HE.out.1], by rw [HE.out.2.1, HE.out.2.2.1, HE.out.2.2.2]; exact (HN4.out.far (grown_rowF wc (w.heap.size + 1 + 1) _) (by omega)).mono (by omega), below_setRow HX4.out.below (by omega) _⟩
end Go.Proofs.YtfjblenkcfdbiaaGreat

/-
  The specification: two bases are the same.
-/
namespace Go.Proofs.YtfjblenkcfdbiaaGreat
open Go.RowKit
attribute [local go_sem] Later.cell Later.frozen
set_option linter.unusedSimpArgs false
set_option linter.unusedVariables false

set_option maxHeartbeats 6400000 in
theorem l3SameBase_any (vk vp uk up : Value) (ks ps ks' ps' : List Tri) (w : World) (hk : TrisAt w vk ks) (hp : TrisAt w vp ps) (hk' : TrisAt w uk ks') (hp' : TrisAt w up ps') (lk : ks.length ≤ 1048576) (lp : ps.length ≤ 1048576) :
    Calls Tryz.prog 41 #[.agg #[vk, vp], .agg #[uk, up]] w fun e w' => e = .returned (.bool (sameBs ks ks' ps ps')) ∧ Below w.heap.size w w' := by
  obtain ⟨ak, ck, rfl, -, m1, h1⟩ := hk
  obtain ⟨ap, cp, rfl, -, m2, h2⟩ := hp
  obtain ⟨ak', ck', rfl, -, m3, h3⟩ := hk'
  obtain ⟨ap', cp', rfl, -, m4, h4⟩ := hp'
  unfold maxLen at m1 m2 m3 m4
  have HU : Hid (∀ i t, ks[i]? = some t → ∃ b off, ak = some ⟨b, off, none⟩ ∧ w.cell? ⟨b, off + i * 3, none⟩ = some (.string t.s) ∧ w.cell? ⟨b, off + i * 3 + 1, none⟩ = some (.int .i64 t.x) ∧ w.cell? ⟨b, off + i * 3 + 2, none⟩ = some (.int .i64 t.y)) := h1
  have HP : Hid (∀ i t, ps[i]? = some t → ∃ b off, ap = some ⟨b, off, none⟩ ∧ w.cell? ⟨b, off + i * 3, none⟩ = some (.string t.s) ∧ w.cell? ⟨b, off + i * 3 + 1, none⟩ = some (.int .i64 t.x) ∧ w.cell? ⟨b, off + i * 3 + 2, none⟩ = some (.int .i64 t.y)) := h2
  have HV : Hid (∀ i t, ks'[i]? = some t → ∃ b off, ak' = some ⟨b, off, none⟩ ∧ w.cell? ⟨b, off + i * 3, none⟩ = some (.string t.s) ∧ w.cell? ⟨b, off + i * 3 + 1, none⟩ = some (.int .i64 t.x) ∧ w.cell? ⟨b, off + i * 3 + 2, none⟩ = some (.int .i64 t.y)) := h3
  have HQ : Hid (∀ i t, ps'[i]? = some t → ∃ b off, ap' = some ⟨b, off, none⟩ ∧ w.cell? ⟨b, off + i * 3, none⟩ = some (.string t.s) ∧ w.cell? ⟨b, off + i * 3 + 1, none⟩ = some (.int .i64 t.x) ∧ w.cell? ⟨b, off + i * 3 + 2, none⟩ = some (.int .i64 t.y)) := h4
  clear h1 h2 h3 h4
  have HX0 : Hid (OwnAt w ((w.alloc (.cells #[.slice ak ks.length ck, .slice ap ps.length cp] 36)).alloc (.cells #[.slice ak' ks'.length ck', .slice ap' ps'.length cp'] 36)) [[.slice ak ks.length ck, .slice ap ps.length cp], [.slice ak' ks'.length ck', .slice ap' ps'.length cp']]) := ((OwnAt.start w).push rfl _ _).push (by simp) _ _
  by_cases hl1 : ks.length = ks'.length
  · have q1 : (((ks.length : Nat) : Int) != ((ks'.length : Nat) : Int)) = false := by simp [hl1]
    have HLK : Hid (ks.length = ks'.length) := hl1
    have le1 : ks.length ≤ ks'.length := by omega
    clear hl1
    by_cases hl2 : ps.length = ps'.length
    · have q2 : (((ps.length : Nat) : Int) != ((ps'.length : Nat) : Int)) = false := by simp [hl2]
      have HLP : Hid (ps.length = ps'.length) := hl2
      have le2 : ps.length ≤ ps'.length := by omega
      clear hl2
      go_enter Tryz.func41, Tryz.ntmps41
      go_wp2
      go_loopw [5] (fun i wr => ∃ k : Nat, k ≤ ks.length ∧ i = .int .i64 k ∧ Hid (∀ i, i < k → triEq (at' ks i) (at' ks' i) = true) ∧ Hid (OwnAt w wr [[.slice ak ks.length ck, .slice ap ps.length cp], [.slice ak' ks'.length ck', .slice ap' ps'.length cp']])) (fun i _ => ks.length - (intOf i).toNat)
      case atStart => exact ⟨0, Nat.zero_le _, rfl, fun i hi => absurd hi (Nat.not_lt_zero _), HX0.out⟩
      case round =>
        clear HX0
        obtain ⟨k, hk, rfl, HA, HX⟩ := hrel
        have x0 : wr.cell? ⟨w.heap.size, 0, none⟩ = some (.slice ak ks.length ck) := (HX.out.has 0 _ rfl 0 _ rfl).1
        have x1 : wr.cell? ⟨w.heap.size, 1, none⟩ = some (.slice ap ps.length cp) := (HX.out.has 0 _ rfl 1 _ rfl).1
        have y0 : wr.cell? ⟨w.heap.size + 1, 0, none⟩ = some (.slice ak' ks'.length ck') := (HX.out.has 1 _ rfl 0 _ rfl).1
        have y1 : wr.cell? ⟨w.heap.size + 1, 1, none⟩ = some (.slice ap' ps'.length cp') := (HX.out.has 1 _ rfl 1 _ rfl).1
        have hxz : w.heap.size < wr.heap.size := lt_of_cell x0
        have hyz : w.heap.size + 1 < wr.heap.size := lt_of_cell y0
        by_cases hlt : k < ks.length
        · obtain ⟨b, off, rfl, d0, d1, d2⟩ := HU.out k _ (at_get hlt)
          obtain ⟨b', off', rfl, e0, e1, e2⟩ := HV.out k _ (at_get (show k < ks'.length by omega))
          have c0 := cell_keep HX.out.below (Nat.le_refl _) d0
          have c1 := cell_keep HX.out.below (Nat.le_refl _) d1
          have c2 := cell_keep HX.out.below (Nat.le_refl _) d2
          have f0 := cell_keep HX.out.below (Nat.le_refl _) e0
          have f1 := cell_keep HX.out.below (Nat.le_refl _) e1
          have f2 := cell_keep HX.out.below (Nat.le_refl _) e2
          have z1 := lt_of_cell c0
          have z2 := lt_of_cell f0
          clear d0 d1 d2 e0 e1 e2
          have hk0 : (0 : Int) ≤ (k : Int) := by omega
          have hk1 : (k : Int) < (ks.length : Int) := by omega
          have hk2 : (k : Int) < (ks'.length : Int) := by omega
          have hne := Later.some wr
          rcases triEq_cases (at' ks k) (at' ks' k) with ⟨ht, h1, h2, h3⟩ | ⟨ht, h1⟩
          · have HN : Hid (∀ i, i < k + 1 → triEq (at' ks i) (at' ks' i) = true) := fun i hi => by
              by_cases e : i = k
              · subst e; exact ht
              · exact HA.out i (by omega)
            clear ht
            go_wp2
            refine wp_region_later (by kernel_rfl) (by kernel_rfl) ?_
            repeat (go_big_quiet_step (fail))
            refine wpQuiet_nil ?_
            rintro _ ⟨x, rfl⟩
            have HB2 : Hid (OwnAt w x.val _) := HX.out.call x.below
            go_wp2
            exact ⟨⟨k + 1, by omega, by go_num, HN, HB2⟩, by simp [intOf]; omega⟩
          · have HS : Hid (sameBs ks ks' ps ps' = false) := by
              have h0 := sameT_stop hlt ht
              show _ = _
              unfold sameBs
              rw [h0]
              simp
            clear ht
            rcases h1 with h1 | ⟨h1, h2⟩ | ⟨h1, h2, h3⟩
            all_goals
              go_wp2
              refine wp_region_later (by kernel_rfl) (by kernel_rfl) ?_
              repeat (go_big_quiet_step (fail))
              refine wpQuiet_nil ?_
              rintro _ ⟨x, rfl⟩
              have HB2 : Hid (Below w.heap.size w x.val) := below_step HX.out.below x.below
              go_wp2
              go_ret
              exact ⟨ret_boolS HS.out.symm, HB2.out⟩
        · have HK1 : Hid (sameT ks ks' = true) := sameT_all HLK.out (fun i hi => HA.out i (by omega))
          have HX0 := HX
          clear HX HA
          go_wp2
          clear x0 x1 y0 y1 hxz hyz
          go_loopw [6] (fun i wr => ∃ k : Nat, k ≤ ps.length ∧ i = .int .i64 k ∧ Hid (∀ i, i < k → triEq (at' ps i) (at' ps' i) = true) ∧ Hid (OwnAt w wr [[.slice ak ks.length ck, .slice ap ps.length cp], [.slice ak' ks'.length ck', .slice ap' ps'.length cp']])) (fun i _ => ps.length - (intOf i).toNat)
          case atStart => exact ⟨0, Nat.zero_le _, rfl, fun i hi => absurd hi (Nat.not_lt_zero _), HX0.out⟩
          case round =>
            clear HX0
            obtain ⟨k, hk, rfl, HA, HX⟩ := hrel
            have x0 : wr.cell? ⟨w.heap.size, 0, none⟩ = some (.slice ak ks.length ck) := (HX.out.has 0 _ rfl 0 _ rfl).1
            have x1 : wr.cell? ⟨w.heap.size, 1, none⟩ = some (.slice ap ps.length cp) := (HX.out.has 0 _ rfl 1 _ rfl).1
            have y0 : wr.cell? ⟨w.heap.size + 1, 0, none⟩ = some (.slice ak' ks'.length ck') := (HX.out.has 1 _ rfl 0 _ rfl).1
            have y1 : wr.cell? ⟨w.heap.size + 1, 1, none⟩ = some (.slice ap' ps'.length cp') := (HX.out.has 1 _ rfl 1 _ rfl).1
            have hxz : w.heap.size < wr.heap.size := lt_of_cell x0
            have hyz : w.heap.size + 1 < wr.heap.size := lt_of_cell y0
            by_cases hlt : k < ps.length
            · obtain ⟨b, off, rfl, d0, d1, d2⟩ := HP.out k _ (at_get hlt)
              obtain ⟨b', off', rfl, e0, e1, e2⟩ := HQ.out k _ (at_get (show k < ps'.length by omega))
              have c0 := cell_keep HX.out.below (Nat.le_refl _) d0
              have c1 := cell_keep HX.out.below (Nat.le_refl _) d1
              have c2 := cell_keep HX.out.below (Nat.le_refl _) d2
              have f0 := cell_keep HX.out.below (Nat.le_refl _) e0
              have f1 := cell_keep HX.out.below (Nat.le_refl _) e1
              have f2 := cell_keep HX.out.below (Nat.le_refl _) e2
              have z1 := lt_of_cell c0
              have z2 := lt_of_cell f0
              clear d0 d1 d2 e0 e1 e2
              have hk0 : (0 : Int) ≤ (k : Int) := by omega
              have hk1 : (k : Int) < (ps.length : Int) := by omega
              have hk2 : (k : Int) < (ps'.length : Int) := by omega
              have hne := Later.some wr
              rcases triEq_cases (at' ps k) (at' ps' k) with ⟨ht, h1, h2, h3⟩ | ⟨ht, h1⟩
              · have HN : Hid (∀ i, i < k + 1 → triEq (at' ps i) (at' ps' i) = true) := fun i hi => by
                  by_cases e : i = k
                  · subst e; exact ht
                  · exact HA.out i (by omega)
                clear ht
                go_wp2
                refine wp_region_later (by kernel_rfl) (by kernel_rfl) ?_
                repeat (go_big_quiet_step (fail))
                refine wpQuiet_nil ?_
                rintro _ ⟨x, rfl⟩
                have HB2 : Hid (OwnAt w x.val _) := HX.out.call x.below
                go_wp2
                exact ⟨⟨k + 1, by omega, by go_num, HN, HB2⟩, by simp [intOf]; omega⟩
              · have HS : Hid (sameBs ks ks' ps ps' = false) := by
                  have h0 := sameT_stop hlt ht
                  show _ = _
                  unfold sameBs
                  rw [h0]
                  simp
                clear ht
                rcases h1 with h1 | ⟨h1, h2⟩ | ⟨h1, h2, h3⟩
                all_goals
                  go_wp2
                  refine wp_region_later (by kernel_rfl) (by kernel_rfl) ?_
                  repeat (go_big_quiet_step (fail))
                  refine wpQuiet_nil ?_
                  rintro _ ⟨x, rfl⟩
                  have HB2 : Hid (Below w.heap.size w x.val) := below_step HX.out.below x.below
                  go_wp2
                  go_ret
                  exact ⟨ret_boolS HS.out.symm, HB2.out⟩
            · have HS : Hid (sameBs ks ks' ps ps' = true) := by
                have h0 := sameT_all HLP.out (fun i hi => HA.out i (by omega))
                show _ = _
                unfold sameBs
                rw [HK1.out, h0]
                rfl
              go_wp2
              go_ret
              exact ⟨ret_boolS HS.out.symm, HX.out.below⟩
    · have q2 : (((ps.length : Nat) : Int) != ((ps'.length : Nat) : Int)) = true := by simp; omega
      have HS : Hid (sameBs ks ks' ps ps' = false) := by
        show _ = _
        unfold sameBs
        rw [sameT_len hl2]
        simp
      clear hl2
      go_enter Tryz.func41, Tryz.ntmps41
      go_wp2
      go_ret
      exact ⟨ret_boolS HS.out.symm, HX0.out.below⟩
  · have q1 : (((ks.length : Nat) : Int) != ((ks'.length : Nat) : Int)) = true := by simp; omega
    have HS : Hid (sameBs ks ks' ps ps' = false) := by
      show _ = _
      unfold sameBs
      rw [sameT_len hl1]
      simp
    clear hl1
    go_enter Tryz.func41, Tryz.ntmps41
    go_wp2
    go_ret
    exact ⟨ret_boolS HS.out.symm, HX0.out.below⟩
end Go.Proofs.YtfjblenkcfdbiaaGreat
