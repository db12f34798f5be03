
/-
  Whether a flight of a book stands: the specification's.
-/
import Derived.Test.YtfjblenkcfdbiaaGreatDoorSt13
import Derived.Test.YtfjblenkcfdbiaaGreatDoorBook7
namespace Go.Proofs.YtfjblenkcfdbiaaGreatDoor.Sd
open Go.RowKit Go.Proofs.YtfjblenkcfdbiaaGreatDoor
set_option linter.unusedSimpArgs false
set_option linter.unusedVariables false

theorem book_kindsB {ks ps : List Tri} {es : List Ent} (h : bookB ks ps es = true) : kindsB ks = true := by
  unfold bookB baseB at h
  simp only [Bool.and_eq_true] at h
  exact h.1.1
set_option maxRecDepth 100000 in
set_option maxHeartbeats 12800000 in
theorem planStandsS_any (vk vp ve : Value) (ks ps : List Tri) (es : List Ent) (nm : ByteArray) (w : World) (hB : BookAt w vk vp ve ks ps es) (nB : BNames ks ps es) (sB : BSmall ks ps es) :
    Calls Tryz.prog 10 #[.agg #[vk, vp, ve], .string nm] w fun e w' => ∃ rt, e = .returned (.tuple #[.agg (standC ks (standR ks ps es nm) rt), .bool (standR ks ps es nm).isSome]) ∧ (∀ x, standR ks ps es nm = some x → RtIs w' w.heap.size rt (lastV x.fs 4)) ∧ Below w.heap.size w w' := by
  have HB : Hid (∀ wx : World, Below w.heap.size w wx → BookAt wx vk vp ve ks ps es) := fun wx hx => hB.keep hx
  obtain ⟨⟨ak, ck, rfl, -, -, -⟩, ⟨ap, cp, rfl, -, -, -⟩, ⟨ae, ce, rfl, he1, he2, -⟩⟩ := hB
  unfold maxLen at he2
  have A1 : Hid (Below w.heap.size w ((w.alloc (.cells #[.slice ak ks.length ck, .slice ap ps.length cp, .slice ae es.length ce] 37)).alloc (.cells #[.string ⟨#[]⟩, .string ⟨#[]⟩, .int .i64 0, .int .i64 0, .int .i64 0, .int .i64 0, .int .i64 0, .slice none 0 0] 45))) := ((Below.refl _ _).alloc (Nat.le_refl _) _).alloc (by simp) _
  have R1 : Hid (((w.alloc (.cells #[.slice ak ks.length ck, .slice ap ps.length cp, .slice ae es.length ce] 37)).alloc (.cells #[.string ⟨#[]⟩, .string ⟨#[]⟩, .int .i64 0, .int .i64 0, .int .i64 0, .int .i64 0, .int .i64 0, .slice none 0 0] 45)).heap[w.heap.size + 1]? = some (.cells #[.string ⟨#[]⟩, .string ⟨#[]⟩, .int .i64 0, .int .i64 0, .int .i64 0, .int .i64 0, .int .i64 0, .slice none 0 0] 45 (0, 0))) := by
    have h := Lv.heap_newF (w.alloc (.cells #[.slice ak ks.length ck, .slice ap ps.length cp, .slice ae es.length ce] 37)) (.cells #[.string ⟨#[]⟩, .string ⟨#[]⟩, .int .i64 0, .int .i64 0, .int .i64 0, .int .i64 0, .int .i64 0, .slice none 0 0] 45)
    rw [show (w.alloc (.cells #[.slice ak ks.length ck, .slice ap ps.length cp, .slice ae es.length ce] 37)).heap.size = w.heap.size + 1 by simp] at h
    exact h
  have Q0 : Hid (∀ wx : World, Below ((w.alloc (.cells #[.slice ak ks.length ck, .slice ap ps.length cp, .slice ae es.length ce] 37)).alloc (.cells #[.string ⟨#[]⟩, .string ⟨#[]⟩, .int .i64 0, .int .i64 0, .int .i64 0, .int .i64 0, .int .i64 0, .slice none 0 0] 45)).heap.size ((w.alloc (.cells #[.slice ak ks.length ck, .slice ap ps.length cp, .slice ae es.length ce] 37)).alloc (.cells #[.string ⟨#[]⟩, .string ⟨#[]⟩, .int .i64 0, .int .i64 0, .int .i64 0, .int .i64 0, .int .i64 0, .slice none 0 0] 45)) wx → (wx.cell? ⟨w.heap.size, 0, none⟩ = some (.slice ak ks.length ck) ∧ wx.cell? ⟨w.heap.size, 1, none⟩ = some (.slice ap ps.length cp) ∧ wx.cell? ⟨w.heap.size, 2, none⟩ = some (.slice ae es.length ce))) := fun wx hx => ⟨cell_keep hx (Nat.le_refl _) (by simp [go_sem]), cell_keep hx (Nat.le_refl _) (by simp [go_sem]), cell_keep hx (Nat.le_refl _) (by simp [go_sem])⟩
  obtain ⟨p0, p1, p2⟩ := Q0.out _ (Below.refl _ _)
  go_enter Tryz.func10, Tryz.ntmps10
  go_wp2_with fail
  generalize ((w.alloc (.cells #[.slice ak ks.length ck, .slice ap ps.length cp, .slice ae es.length ce] 37)).alloc (.cells #[.string ⟨#[]⟩, .string ⟨#[]⟩, .int .i64 0, .int .i64 0, .int .i64 0, .int .i64 0, .int .i64 0, .slice none 0 0] 45)) = w1 at *
  refine (l3At_any _ _ _ es nm _ (HB.out _ A1.out).e).mono ?_
  rintro e w2 ⟨r, rfl, HAT, hb2⟩
  have HAT := Lv.toHid HAT
  have B2 : Hid (Below w1.heap.size w1 w2) := hb2
  clear hb2 p0 p1 p2
  obtain ⟨p0, p1, p2⟩ := Q0.out _ B2.out
  go_wp2_with fail
  refine (specBookOk_any _ _ _ ks ps es _ (HB.out _ (below_step A1.out B2.out)) nB sB).mono ?_
  rintro e w3 ⟨rfl, hb3⟩
  have B3 : Hid (Below w1.heap.size w1 w3) := below_step B2.out hb3
  clear hb3 p0 p1 p2 B2
  obtain ⟨p0, p1, p2⟩ := Q0.out _ B3.out
  have hR := below_block B3.out R1.out
  cases hbb : bookB ks ps es
  · have HE : Hid (standR ks ps es nm = none) := by show _ = _; unfold standR; rw [hbb]; rfl
    clear hbb
    go_wp2_with (refine wpList_store_row rfl 45 _ _ rfl (w.heap.size + 1) #[.string ⟨#[]⟩, .string ⟨#[]⟩, .int .i64 0, .int .i64 0, .int .i64 0, .int .i64 0, .int .i64 0, .slice none 0 0] rfl rfl 45 _ hR (by kernel_rfl) rfl (by simp [Value.oneCell']) ?_)
    exact bodyPost_ret (v := .tuple #[.agg #[.string ⟨#[]⟩, .string ⟨#[]⟩, .int .i64 0, .int .i64 0, .int .i64 0, .int .i64 0, .int .i64 0, .slice none 0 0], .bool false]) (by simp [results, Tryz.results10, go_sem, cell_setRow_same _ _ _ _ _ _ _ hR]) rfl ⟨.slice none 0 0, by rw [HE.out]; rfl, (fun x h => by rw [HE.out] at h; cases h), below_setRow (below_step A1.out B3.out) (by omega) _⟩
  have HBB : Hid (bookB ks ps es = true) := hbb
  clear hbb
  obtain ⟨rfl, hfind⟩ | ⟨j, hpl, rfl, hfind⟩ := HAT.out
  · have HE : Hid (standR ks ps es nm = none) := by show _ = _; unfold standR; rw [HBB.out, hfind]; rfl
    clear hfind HAT
    go_wp2_with (refine wpList_store_row rfl 45 _ _ rfl (w.heap.size + 1) #[.string ⟨#[]⟩, .string ⟨#[]⟩, .int .i64 0, .int .i64 0, .int .i64 0, .int .i64 0, .int .i64 0, .slice none 0 0] rfl rfl 45 _ hR (by kernel_rfl) rfl (by simp [Value.oneCell']) ?_)
    exact bodyPost_ret (v := .tuple #[.agg #[.string ⟨#[]⟩, .string ⟨#[]⟩, .int .i64 0, .int .i64 0, .int .i64 0, .int .i64 0, .int .i64 0, .slice none 0 0], .bool false]) (by simp [results, Tryz.results10, go_sem, cell_setRow_same _ _ _ _ _ _ _ hR]) rfl ⟨.slice none 0 0, by rw [HE.out]; rfl, (fun x h => by rw [HE.out] at h; cases h), below_setRow (below_step A1.out B3.out) (by omega) _⟩
  have hmem : eat es j ∈ es := List.mem_of_getElem? (eat_get hpl)
  have HFI : Hid (standR ks ps es nm = bif stB (eat es j).fs then some (eat es j) else none) := by show _ = _; unfold standR; rw [HBB.out, hfind]; rfl
  have HFT : Hid (∀ f ∈ (eat es j).fs, valB2 ks ps f.what f.v = true ∧ f.v.size ≤ 1048576) := fun f hf => ⟨book_fits HBB.out _ hmem f hf, sB.v _ hmem f hf⟩
  have HFA : Hid (AscF (eat es j).fs) := book_ascF HBB.out _ hmem
  have HKB : Hid (kindsB ks = true) := book_kindsB HBB.out
  have HEA : Hid (∀ wx : World, Below w.heap.size w wx → ∃ b off, ae = some ⟨b, off, none⟩ ∧ EntAt wx b (off + j * 2) (eat es j)) := fun wx hx => by
    obtain ⟨a9, c9, e9, -, -, h9⟩ := (HB.out _ hx).e
    obtain ⟨b, off, ha, hc⟩ := h9 _ _ (eat_get hpl)
    cases e9
    exact ⟨b, off, ha, hc⟩
  clear hfind hmem HAT
  have hj0 : (0 : Int) ≤ (j : Int) := by omega
  have hj1 : (j : Int) < (es.length : Int) := by omega
  have hjn : ¬ (j : Int) < 0 := by omega
  obtain ⟨⟨en, fs⟩, hen⟩ : ∃ e, eat es j = e := ⟨_, rfl⟩
  rw [hen] at HFI HFT HFA HEA
  clear hen
  dsimp only at HFI HFT HFA
  obtain ⟨b, off, rfl, fv, d0, d1, hfl⟩ := HEA.out _ (below_step A1.out B3.out)
  dsimp only at d0 d1 hfl
  obtain ⟨af, cf, rfl, -, -, -⟩ := hfl
  have GS : Hid (∀ wx : World, Below w1.heap.size w1 wx → ∀ fv, FldsAt wx fv fs → Calls Tryz.prog 31 #[.agg #[.slice ak ks.length ck, .slice ap ps.length cp, .slice (some ⟨b, off, none⟩) es.length ce], .agg #[.string en, fv]] wx fun e w' => ∃ rt, e = .returned (.tuple #[.agg (stC ks en fs rt), .bool (stB fs)]) ∧ (stB fs = true → RtIs w' wx.heap.size rt (lastV fs 4)) ∧ Below wx.heap.size wx w') := fun wx hx fv hfv => l6Stands_any _ _ _ fv ks ps en fs wx (HB.out _ (below_step A1.out hx)).k hfv HKB.out HFT.out HFA.out ⟨_, _, _, rfl⟩ ⟨_, _, _, rfl⟩
  have QS : Hid (∀ wx : World, Below w3.heap.size w3 wx → ((wx.cell? ⟨w.heap.size, 0, none⟩ = some (.slice ak ks.length ck) ∧ wx.cell? ⟨w.heap.size, 1, none⟩ = some (.slice ap ps.length cp) ∧ wx.cell? ⟨w.heap.size, 2, none⟩ = some (.slice (some ⟨b, off, none⟩) es.length ce)) ∧ wx.cell? ⟨b, off + j * 2, none⟩ = some (.string en) ∧ wx.cell? ⟨b, off + j * 2 + 1, none⟩ = some (.slice af fs.length cf)) ∧ FldsAt wx (.slice af fs.length cf) fs) := fun wx hx => by
    refine ⟨⟨⟨(Q0.out _ (below_step B3.out hx)).1, (Q0.out _ (below_step B3.out hx)).2.1, (Q0.out _ (below_step B3.out hx)).2.2⟩, cell_keep hx (Nat.le_refl _) d0, cell_keep hx (Nat.le_refl _) d1⟩, ?_⟩
    obtain ⟨b', off', hbo, fv', e0, e1, hfl'⟩ := HEA.out _ (below_step A1.out B3.out)
    cases hbo
    dsimp only at e1 hfl'
    rw [d1] at e1
    injection e1 with e1
    subst e1
    exact hfl'.keep hx
  go_wp2_with fail
  refine wp_region_noPanic ?_
  refine wp_region_held_drew (S := fun wx => (wx.cell? ⟨w.heap.size, 0, none⟩ = some (.slice ak ks.length ck) ∧ wx.cell? ⟨w.heap.size, 1, none⟩ = some (.slice ap ps.length cp) ∧ wx.cell? ⟨w.heap.size, 2, none⟩ = some (.slice (some ⟨b, off, none⟩) es.length ce)) ∧ wx.cell? ⟨b, off + j * 2, none⟩ = some (.string en) ∧ wx.cell? ⟨b, off + j * 2 + 1, none⟩ = some (.slice af fs.length cf)) (by kernel_rfl) ?_ (fun hHeld => ?_)
  · exact (QS.out _ (Below.refl _ _).drew).1
  have I4 : Hid (Below w3.heap.size w3 w3.drew) := (Below.refl _ _).drew
  clear d0 d1 p0 p1 p2 hR
  generalize w3.drew = W at *
  refine wpAnyH_take (i := 0) (v := ?_) rfl (by kernel_rfl) (by kernel_rfl) (by kernel_rfl) (fun _ _ _ h => h) (Or.inl ⟨by rfl, ?_⟩) (by assumption) ?_
  rotate_left
  · intro w hSw; (try dsimp only at hSw); go_simp; try with_reducible rfl
  simp only [Act.put, List.setIfInBounds_toArray, List.set_cons_zero, List.set_cons_succ, List.getElem_toArray, List.getElem_cons_succ, List.getElem_cons_zero]
  refine wpAnyH_take (i := 1) (v := ?_) rfl (by kernel_rfl) (by kernel_rfl) (by kernel_rfl) (fun _ _ _ h => h) (Or.inl ⟨by rfl, ?_⟩) (by assumption) ?_
  rotate_left
  · intro w hSw; (try dsimp only at hSw); go_simp; try with_reducible rfl
  simp only [Act.put, List.setIfInBounds_toArray, List.set_cons_zero, List.set_cons_succ, List.getElem_toArray, List.getElem_cons_succ, List.getElem_cons_zero]
  refine wpAnyH_take (i := 2) (v := ?_) rfl (by kernel_rfl) (by kernel_rfl) (by kernel_rfl) (fun _ _ _ h => h) (Or.inl ⟨by rfl, ?_⟩) (by assumption) ?_
  rotate_left
  · intro w hSw; (try dsimp only at hSw); go_simp; try with_reducible rfl
  simp only [Act.put, List.setIfInBounds_toArray, List.set_cons_zero, List.set_cons_succ, List.getElem_toArray, List.getElem_cons_succ, List.getElem_cons_zero]
  refine wpAnyH_take (i := 3) (v := ?_) rfl (by kernel_rfl) (by kernel_rfl) (by kernel_rfl) (fun _ _ _ h => h) (Or.inl ⟨by rfl, ?_⟩) (by assumption) ?_
  rotate_left
  · intro w hSw; (try dsimp only at hSw); go_simp; try with_reducible rfl
  simp only [Act.put, List.setIfInBounds_toArray, List.set_cons_zero, List.set_cons_succ, List.getElem_toArray, List.getElem_cons_succ, List.getElem_cons_zero]
  refine wpAnyH_take (i := 4) (v := ?_) rfl (by kernel_rfl) (by kernel_rfl) (by kernel_rfl) (fun _ _ _ h => h) (Or.inl ⟨by rfl, ?_⟩) (by assumption) ?_
  rotate_left
  · intro w hSw; (try dsimp only at hSw); go_simp; try with_reducible rfl
  simp only [Act.put, List.setIfInBounds_toArray, List.set_cons_zero, List.set_cons_succ, List.getElem_toArray, List.getElem_cons_succ, List.getElem_cons_zero]
  refine wpAnyH_take (i := 5) (v := ?_) rfl (by kernel_rfl) (by kernel_rfl) (by kernel_rfl) (fun _ _ _ h => h) (Or.inl ⟨by rfl, ?_⟩) (by assumption) ?_
  rotate_left
  · intro w hSw; (try dsimp only at hSw); go_simp; try with_reducible rfl
  simp only [Act.put, List.setIfInBounds_toArray, List.set_cons_zero, List.set_cons_succ, List.getElem_toArray, List.getElem_cons_succ, List.getElem_cons_zero]
  clear hHeld
  refine wpAnyH_ready (rs := [6]) (by kernel_rfl) (by simp) ?_
  refine AllReadyH.cons rfl (fun K hK => ?_) AllReadyH.nil
  go_simp
  refine (GS.out _ (below_step B3.out I4.out) _ (QS.out _ I4.out).2).mono ?_
  rintro e W2 ⟨rt, rfl, hrt, hbz⟩
  have I5 : Hid (Below w3.heap.size w3 W2 ∧ Below w.heap.size w W2) := ⟨below_step I4.out hbz, below_step (below_step A1.out B3.out) (below_step I4.out hbz)⟩
  have HRT : Hid (stB fs = true → RtIs W2 w.heap.size rt (lastV fs 4)) := fun h => (hrt h).mono (below_step (below_step A1.out B3.out) I4.out).size
  have hHeld := (QS.out _ I5.out.1).1
  refine hK.out _ _ hHeld (fun _ => ?_)
  clear hK K hbz hrt I4
  have hRW : W2.heap[w.heap.size + 1]? = some (.cells #[.string ⟨#[]⟩, .string ⟨#[]⟩, .int .i64 0, .int .i64 0, .int .i64 0, .int .i64 0, .int .i64 0, .slice none 0 0] 45 (0, 0)) := below_block (below_step B3.out I5.out.1) R1.out
  have HRW := Lv.toHid hRW
  clear hRW
  have hbw3 : w.heap.size + 1 < w3.heap.size := lt_of_block (below_block B3.out R1.out)
  have hbl : b < w3.heap.size := by
    obtain ⟨b', off', hbo, fv', e0, e1, hfl'⟩ := HEA.out _ (below_step A1.out B3.out)
    cases hbo
    exact lt_of_cell e0
  have HNB : Hid (b ≠ w.heap.size + 1) := by
    obtain ⟨b', off', hbo, fv', e0, -⟩ := HEA.out w (Below.refl _ _)
    cases hbo
    have := lt_of_cell e0
    show b ≠ w.heap.size + 1
    omega
  cases hst : stB fs
  · have HE : Hid (standR ks ps es nm = none) := by show _ = _; rw [HFI.out, hst]; rfl
    have HS : Hid (stC ks en fs rt = #[.string ⟨#[]⟩, .string ⟨#[]⟩, .int .i64 0, .int .i64 0, .int .i64 0, .int .i64 0, .int .i64 0, .slice none 0 0]) := by show _ = _; unfold stC; rw [hst]; rfl
    rw [HS.out]
    clear hst
    refine wpAnyH_take (i := 7) (v := ?_) rfl (by kernel_rfl) (by kernel_rfl) (by kernel_rfl) (fun _ _ _ h => h) (Or.inl ⟨by rfl, ?_⟩) (by assumption) ?_
    rotate_left
    · intro w hSw; (try dsimp only at hSw); go_simp; try with_reducible rfl
    simp only [Act.put, List.setIfInBounds_toArray, List.set_cons_zero, List.set_cons_succ, List.getElem_toArray, List.getElem_cons_succ, List.getElem_cons_zero]
    refine wpAnyH_take (i := 8) (v := ?_) rfl (by kernel_rfl) (by kernel_rfl) (by kernel_rfl) (fun _ _ _ h => h) (Or.inl ⟨by rfl, ?_⟩) (by assumption) ?_
    rotate_left
    · intro w hSw; (try dsimp only at hSw); go_simp; try with_reducible rfl
    simp only [Act.put, List.setIfInBounds_toArray, List.set_cons_zero, List.set_cons_succ, List.getElem_toArray, List.getElem_cons_succ, List.getElem_cons_zero]
    clear hHeld
    refine wpAnyH_ready (rs := [9]) (by kernel_rfl) (by simp) ?_
    refine AllReadyH.cons rfl (fun K hK => ?_) AllReadyH.nil
    refine step_store_rowC rfl 45 _ _ rfl (w.heap.size + 1) #[.string ⟨#[]⟩, .string ⟨#[]⟩, .int .i64 0, .int .i64 0, .int .i64 0, .int .i64 0, .int .i64 0, .slice none 0 0] rfl rfl 45 _ HRW.out (by kernel_rfl) rfl (by simp [Value.oneCell']) ?_
    have HO : Hid (∀ q : Nat, q ≠ w.heap.size + 1 → (W2.setRow (w.heap.size + 1) #[.string ⟨#[]⟩, .string ⟨#[]⟩, .int .i64 0, .int .i64 0, .int .i64 0, .int .i64 0, .int .i64 0, .slice none 0 0]).heap[q]? = W2.heap[q]?) := fun q hq => setRow_other _ _ _ _ hq
    have HF : Hid ((W2.setRow (w.heap.size + 1) #[.string ⟨#[]⟩, .string ⟨#[]⟩, .int .i64 0, .int .i64 0, .int .i64 0, .int .i64 0, .int .i64 0, .slice none 0 0]).heap[w.heap.size + 1]? = some (.cells #[.string ⟨#[]⟩, .string ⟨#[]⟩, .int .i64 0, .int .i64 0, .int .i64 0, .int .i64 0, .int .i64 0, .slice none 0 0] 45 (0, 0))) := setRow_heap _ _ _ _ _ _ HRW.out
    have HBF : Hid (Below w.heap.size w (W2.setRow (w.heap.size + 1) #[.string ⟨#[]⟩, .string ⟨#[]⟩, .int .i64 0, .int .i64 0, .int .i64 0, .int .i64 0, .int .i64 0, .slice none 0 0])) := below_setRow I5.out.2 (by omega) _
    have hS := (QS.out _ I5.out.1).1
    generalize (W2.setRow (w.heap.size + 1) #[.string ⟨#[]⟩, .string ⟨#[]⟩, .int .i64 0, .int .i64 0, .int .i64 0, .int .i64 0, .int .i64 0, .slice none 0 0]) = wf at *
    have hHeld : (wf.cell? ⟨w.heap.size, 0, none⟩ = some (.slice ak ks.length ck) ∧ wf.cell? ⟨w.heap.size, 1, none⟩ = some (.slice ap ps.length cp) ∧ wf.cell? ⟨w.heap.size, 2, none⟩ = some (.slice (some ⟨b, off, none⟩) es.length ce)) ∧ wf.cell? ⟨b, off + j * 2, none⟩ = some (.string en) ∧ wf.cell? ⟨b, off + j * 2 + 1, none⟩ = some (.slice af fs.length cf) := ⟨⟨(World.cell?_of_block (HO.out w.heap.size (by omega))).trans hS.1.1, (World.cell?_of_block (HO.out w.heap.size (by omega))).trans hS.1.2.1, (World.cell?_of_block (HO.out w.heap.size (by omega))).trans hS.1.2.2⟩, (World.cell?_of_block (HO.out b (fun e => HNB.out e))).trans hS.2.1, (World.cell?_of_block (HO.out b (fun e => HNB.out e))).trans hS.2.2⟩
    refine hK.out _ _ hHeld (fun _ => ?_)
    clear hK K hS
    refine wpAnyH_take (i := 10) (v := ?_) rfl (by kernel_rfl) (by kernel_rfl) (by kernel_rfl) (fun _ _ _ h => h) (Or.inl ⟨by rfl, ?_⟩) (by assumption) ?_
    rotate_left
    · intro w hSw; (try dsimp only at hSw); go_simp; try with_reducible rfl
    simp only [Act.put, List.setIfInBounds_toArray, List.set_cons_zero, List.set_cons_succ, List.getElem_toArray, List.getElem_cons_succ, List.getElem_cons_zero]
    clear hHeld
    have hf := HF.out
    refine wpAnyH_done (by kernel_rfl) ?_ _
    refine NoPanic.normal ?_
    go_wp2
    have y0 : wf.cell? ⟨w.heap.size + 1, 0, none⟩ = some (.string ⟨#[]⟩) := by simp [World.cell?, hf]
    have y1 : wf.cell? ⟨w.heap.size + 1, 1, none⟩ = some (.string ⟨#[]⟩) := by simp [World.cell?, hf]
    have y2 : wf.cell? ⟨w.heap.size + 1, 2, none⟩ = some (.int .i64 0) := by simp [World.cell?, hf]
    have y3 : wf.cell? ⟨w.heap.size + 1, 3, none⟩ = some (.int .i64 0) := by simp [World.cell?, hf]
    have y4 : wf.cell? ⟨w.heap.size + 1, 4, none⟩ = some (.int .i64 0) := by simp [World.cell?, hf]
    have y5 : wf.cell? ⟨w.heap.size + 1, 5, none⟩ = some (.int .i64 0) := by simp [World.cell?, hf]
    have y6 : wf.cell? ⟨w.heap.size + 1, 6, none⟩ = some (.int .i64 0) := by simp [World.cell?, hf]
    have y7 : wf.cell? ⟨w.heap.size + 1, 7, none⟩ = some (.slice none 0 0) := by simp [World.cell?, hf]
    exact bodyPost_ret (v := .tuple #[.agg #[.string ⟨#[]⟩, .string ⟨#[]⟩, .int .i64 0, .int .i64 0, .int .i64 0, .int .i64 0, .int .i64 0, .slice none 0 0], .bool false]) (by simp [results, Tryz.results10, go_sem, y0, y1, y2, y3, y4, y5, y6, y7]) rfl ⟨.slice none 0 0, by rw [HE.out]; rfl, (fun x h => by rw [HE.out] at h; cases h), HBF.out⟩
  · have hrt := HRT.out hst
    obtain ⟨ra, rn, rc, hra⟩ := hrt.slice
    subst hra
    have HR2 : Hid (RtIs W2 w.heap.size (.slice ra rn rc) (lastV fs 4)) := hrt
    have HE : Hid (standR ks ps es nm = some ⟨en, fs⟩) := by show _ = _; rw [HFI.out, hst]; rfl
    have HS : Hid (stC ks en fs (.slice ra rn rc) = flO ks en fs (.slice ra rn rc)) := by show _ = _; unfold stC; rw [hst]; rfl
    rw [HS.out]
    clear hst hrt HRT
    obtain ⟨k1, e1⟩ : ∃ t, kdOf ks (lastV fs 1) = t := ⟨_, rfl⟩
    obtain ⟨k2, e2⟩ : ∃ t, frOf (lastV fs 2) = t := ⟨_, rfl⟩
    obtain ⟨k3, e3⟩ : ∃ t, byOf (lastV fs 2) = t := ⟨_, rfl⟩
    obtain ⟨k4, e4⟩ : ∃ t, lvOf (lastV fs 3) = t := ⟨_, rfl⟩
    have HOO : Hid (flO ks en fs (.slice ra rn rc) = #[.string en, .string k1.s, .int .i64 k1.x, .int .i64 k1.y, .int .i64 k2, .int .i64 k3, .int .i64 k4, .slice ra rn rc]) := by show _ = _; unfold flO flC; rw [e1, e2, e3, e4]
    rw [HOO.out]
    clear e1 e2 e3 e4
    refine wpAnyH_take (i := 7) (v := ?_) rfl (by kernel_rfl) (by kernel_rfl) (by kernel_rfl) (fun _ _ _ h => h) (Or.inl ⟨by rfl, ?_⟩) (by assumption) ?_
    rotate_left
    · intro w hSw; (try dsimp only at hSw); go_simp; try with_reducible rfl
    simp only [Act.put, List.setIfInBounds_toArray, List.set_cons_zero, List.set_cons_succ, List.getElem_toArray, List.getElem_cons_succ, List.getElem_cons_zero]
    refine wpAnyH_take (i := 8) (v := ?_) rfl (by kernel_rfl) (by kernel_rfl) (by kernel_rfl) (fun _ _ _ h => h) (Or.inl ⟨by rfl, ?_⟩) (by assumption) ?_
    rotate_left
    · intro w hSw; (try dsimp only at hSw); go_simp; try with_reducible rfl
    simp only [Act.put, List.setIfInBounds_toArray, List.set_cons_zero, List.set_cons_succ, List.getElem_toArray, List.getElem_cons_succ, List.getElem_cons_zero]
    clear hHeld
    refine wpAnyH_ready (rs := [9]) (by kernel_rfl) (by simp) ?_
    refine AllReadyH.cons rfl (fun K hK => ?_) AllReadyH.nil
    refine step_store_rowC rfl 45 _ _ rfl (w.heap.size + 1) #[.string en, .string k1.s, .int .i64 k1.x, .int .i64 k1.y, .int .i64 k2, .int .i64 k3, .int .i64 k4, .slice ra rn rc] rfl rfl 45 _ HRW.out (by kernel_rfl) rfl (by simp [Value.oneCell']) ?_
    have HO : Hid (∀ q : Nat, q ≠ w.heap.size + 1 → (W2.setRow (w.heap.size + 1) #[.string en, .string k1.s, .int .i64 k1.x, .int .i64 k1.y, .int .i64 k2, .int .i64 k3, .int .i64 k4, .slice ra rn rc]).heap[q]? = W2.heap[q]?) := fun q hq => setRow_other _ _ _ _ hq
    have HF : Hid ((W2.setRow (w.heap.size + 1) #[.string en, .string k1.s, .int .i64 k1.x, .int .i64 k1.y, .int .i64 k2, .int .i64 k3, .int .i64 k4, .slice ra rn rc]).heap[w.heap.size + 1]? = some (.cells #[.string en, .string k1.s, .int .i64 k1.x, .int .i64 k1.y, .int .i64 k2, .int .i64 k3, .int .i64 k4, .slice ra rn rc] 45 (0, 0))) := setRow_heap _ _ _ _ _ _ HRW.out
    have HBF : Hid (Below w.heap.size w (W2.setRow (w.heap.size + 1) #[.string en, .string k1.s, .int .i64 k1.x, .int .i64 k1.y, .int .i64 k2, .int .i64 k3, .int .i64 k4, .slice ra rn rc])) := below_setRow I5.out.2 (by omega) _
    have HRF : Hid (RtIs (W2.setRow (w.heap.size + 1) #[.string en, .string k1.s, .int .i64 k1.x, .int .i64 k1.y, .int .i64 k2, .int .i64 k3, .int .i64 k4, .slice ra rn rc]) w.heap.size (.slice ra rn rc) (lastV fs 4)) := RtIs.row HR2.out HRW.out
    have hS := (QS.out _ I5.out.1).1
    generalize (W2.setRow (w.heap.size + 1) #[.string en, .string k1.s, .int .i64 k1.x, .int .i64 k1.y, .int .i64 k2, .int .i64 k3, .int .i64 k4, .slice ra rn rc]) = wf at *
    have hHeld : (wf.cell? ⟨w.heap.size, 0, none⟩ = some (.slice ak ks.length ck) ∧ wf.cell? ⟨w.heap.size, 1, none⟩ = some (.slice ap ps.length cp) ∧ wf.cell? ⟨w.heap.size, 2, none⟩ = some (.slice (some ⟨b, off, none⟩) es.length ce)) ∧ wf.cell? ⟨b, off + j * 2, none⟩ = some (.string en) ∧ wf.cell? ⟨b, off + j * 2 + 1, none⟩ = some (.slice af fs.length cf) := ⟨⟨(World.cell?_of_block (HO.out w.heap.size (by omega))).trans hS.1.1, (World.cell?_of_block (HO.out w.heap.size (by omega))).trans hS.1.2.1, (World.cell?_of_block (HO.out w.heap.size (by omega))).trans hS.1.2.2⟩, (World.cell?_of_block (HO.out b (fun e => HNB.out e))).trans hS.2.1, (World.cell?_of_block (HO.out b (fun e => HNB.out e))).trans hS.2.2⟩
    refine hK.out _ _ hHeld (fun _ => ?_)
    clear hK K hS
    refine wpAnyH_take (i := 10) (v := ?_) rfl (by kernel_rfl) (by kernel_rfl) (by kernel_rfl) (fun _ _ _ h => h) (Or.inl ⟨by rfl, ?_⟩) (by assumption) ?_
    rotate_left
    · intro w hSw; (try dsimp only at hSw); go_simp; try with_reducible rfl
    simp only [Act.put, List.setIfInBounds_toArray, List.set_cons_zero, List.set_cons_succ, List.getElem_toArray, List.getElem_cons_succ, List.getElem_cons_zero]
    clear hHeld
    have hf := HF.out
    refine wpAnyH_done (by kernel_rfl) ?_ _
    refine NoPanic.normal ?_
    go_wp2
    have y0 : wf.cell? ⟨w.heap.size + 1, 0, none⟩ = some (.string en) := by simp [World.cell?, hf]
    have y1 : wf.cell? ⟨w.heap.size + 1, 1, none⟩ = some (.string k1.s) := by simp [World.cell?, hf]
    have y2 : wf.cell? ⟨w.heap.size + 1, 2, none⟩ = some (.int .i64 k1.x) := by simp [World.cell?, hf]
    have y3 : wf.cell? ⟨w.heap.size + 1, 3, none⟩ = some (.int .i64 k1.y) := by simp [World.cell?, hf]
    have y4 : wf.cell? ⟨w.heap.size + 1, 4, none⟩ = some (.int .i64 k2) := by simp [World.cell?, hf]
    have y5 : wf.cell? ⟨w.heap.size + 1, 5, none⟩ = some (.int .i64 k3) := by simp [World.cell?, hf]
    have y6 : wf.cell? ⟨w.heap.size + 1, 6, none⟩ = some (.int .i64 k4) := by simp [World.cell?, hf]
    have y7 : wf.cell? ⟨w.heap.size + 1, 7, none⟩ = some (.slice ra rn rc) := by simp [World.cell?, hf]
    exact bodyPost_ret (v := .tuple #[.agg #[.string en, .string k1.s, .int .i64 k1.x, .int .i64 k1.y, .int .i64 k2, .int .i64 k3, .int .i64 k4, .slice ra rn rc], .bool true]) (by simp [results, Tryz.results10, go_sem, y0, y1, y2, y3, y4, y5, y6, y7]) rfl ⟨.slice ra rn rc, by rw [HE.out]; show _ = Ending.returned (.tuple #[.agg (flO ks en fs (.slice ra rn rc)), .bool true]); rw [HOO.out], (fun x h => by rw [HE.out] at h; injection h with h; subst h; exact HRF.out), HBF.out⟩
end Go.Proofs.YtfjblenkcfdbiaaGreatDoor.Sd
