/-
  For the proof of take_holds: part 28 (LawTake).
-/
import Derived.Test.YtfjblenkcfdbiaaGreatRowTakeJ27
namespace Go.Proofs.YtfjblenkcfdbiaaGreat
open Go.RowKit
set_option linter.unusedSimpArgs false
set_option linter.unusedVariables false

theorem putE_fs {es : List Ent} (n : ByteArray) (f : Fld) (M : Nat) (h : ∀ e ∈ es, e.fs.length ≤ M) : ∀ e ∈ putE es n f, e.fs.length ≤ M + 1 := by
  induction es with
  | nil => intro e he; simp [putE] at he; subst he; simp
  | cons x es ih =>
    intro e he
    rw [putE] at he
    split at he
    · rcases List.mem_cons.1 he with rfl | he
      · have := putF_len x.fs f
        have := h x (by simp)
        show (putF x.fs f).length ≤ _
        omega
      · have := h e (by simp [he]); omega
    · split at he
      · rcases List.mem_cons.1 he with rfl | he
        · have := h e (by simp); omega
        · exact ih (fun e he => h e (by simp [he])) e he
      · rcases List.mem_cons.1 he with rfl | he
        · simp
        · have := h e he; omega
theorem takeE_small (ks ps : List Tri) (es : List Ent) (c : Chg) : (takeE ks ps es c).length ≤ 13 ∧ sumN (fun e => e.fs.length) (takeE ks ps es c) ≤ 1048576 := by
  have go : ∀ l : List Ent, l.length ≤ 13 → (∀ e ∈ l, e.fs.length ≤ 6) → l.length ≤ 13 ∧ sumN (fun e => e.fs.length) l ≤ 1048576 := fun l h1 h2 => by
    have := sumN_le_mul (fun e : Ent => e.fs.length) 6 l h2
    have := Nat.mul_le_mul_right 6 h1
    exact ⟨h1, by omega⟩
  unfold takeE
  cases hb : bookB ks ps es
  · exact go [] (by simp) (fun e he => by cases he)
  · have h12 := book_len hb
    have h5 := book_fs5 hb
    have hes := go es (by omega) (fun e he => by have := h5 e he; omega)
    have hput := go (putE es c.f (fldC c)) (by rw [putE_len c.f (fldC c) (book_names hb)]; split <;> omega) (fun e he => putE_fs c.f (fldC c) 5 h5 e he)
    cases fitB ks ps c
    · exact hes
    · cases decide (12 < (putE es c.f (fldC c)).length)
      · exact hput
      · exact hes
theorem takeT_small (ks ps : List Tri) (es : List Ent) (l : List Tri) (h : l.length ≤ 1048576) : (takeT ks ps es l).length ≤ 1048576 := by
  unfold takeT
  cases bookB ks ps es
  · simp
  · exact h

set_option maxRecDepth 100000 in
set_option maxHeartbeats 25600000 in
theorem lawTake_walk (vk vp ve : Value) (ks ps : List Tri) (es : List Ent) (c : Chg) (w : World) (hA : BookAt w vk vp ve ks ps es) (nA : BNames ks ps es) (hcf : c.f.size ≤ maxLen) (hcv : c.v.size ≤ maxLen) :
    Calls Tryz.prog 3 #[.agg #[vk, vp, ve], .agg #[.string c.f, .int .i64 c.what, .int .i64 c.num, .string c.v]] w fun e w' => e = .returned (.bool true) ∧ Below w.heap.size w w' := by
  have HA : Hid (BookAt w vk vp ve ks ps es) := hA
  have NN : Hid (BNames ks ps es) := nA
  obtain ⟨⟨ak, ck, rfl, -, -, -⟩, ⟨ap, cp, rfl, -, -, -⟩, ⟨ae, ce, rfl, -, -, -⟩⟩ := hA
  clear nA
  have L0 : Hid (Bxs w _ [(w.heap.size, #[.slice ak ks.length ck, .slice ap ps.length cp, .slice ae es.length ce], 28), (w.heap.size + 1, #[.string c.f, .int .i64 c.what, .int .i64 c.num, .string c.v], 30)]) := Bxs.start2 w #[.slice ak ks.length ck, .slice ap ps.length cp, .slice ae es.length ce] #[.string c.f, .int .i64 c.what, .int .i64 c.num, .string c.v] 28 30
  go_enter Tryz.func3, Tryz.ntmps3
  go_wp2_with fail
  refine (szBook_any _ _ _ ks ps es _ _ (HA.out.keep L0.out.below) NN.out (by omega) (by omega)).mono ?_
  rintro e w1 ⟨rfl, hb1⟩
  have L1 : Hid (Bxs w w1 [(w.heap.size, #[.slice ak ks.length ck, .slice ap ps.length cp, .slice ae es.length ce], 28), (w.heap.size + 1, #[.string c.f, .int .i64 c.what, .int .i64 c.num, .string c.v], 30)]) := L0.out.call hb1
  clear L0 hb1
  by_cases hsz : (szBook ks ps es : Int) ≤ 1048576
  · rw [szR_pos hsz]
    have hszA : szBook ks ps es ≤ 1048576 := by omega
    have hge : 0 ≤ 1048576 - (szBook ks ps es : Int) := by omega
    have hle : 1048576 - (szBook ks ps es : Int) ≤ 1048576 := by omega
    generalize 1048576 - (szBook ks ps es : Int) = r at *
    clear hsz
    obtain ⟨b0, b1, b2, b3⟩ : w1.cell? ⟨w.heap.size + 1, 0, none⟩ = some (.string c.f) ∧ w1.cell? ⟨w.heap.size + 1, 1, none⟩ = some (.int .i64 c.what) ∧ w1.cell? ⟨w.heap.size + 1, 2, none⟩ = some (.int .i64 c.num) ∧ w1.cell? ⟨w.heap.size + 1, 3, none⟩ = some (.string c.v) := ⟨L1.out.cell 1 rfl 0, L1.out.cell 1 rfl 1, L1.out.cell 1 rfl 2, L1.out.cell 1 rfl 3⟩
    go_wp2_with fail
    refine (szChange_any c r _ hcf hcv hge hle).mono ?_
    rintro e w2 ⟨rfl, hb2⟩
    have L2 : Hid (Bxs w w2 [(w.heap.size, #[.slice ak ks.length ck, .slice ap ps.length cp, .slice ae es.length ce], 28), (w.heap.size + 1, #[.string c.f, .int .i64 c.what, .int .i64 c.num, .string c.v], 30)]) := L1.out.call hb2
    clear L1 hb2 b0 b1 b2 b3
    by_cases hsz2 : ((c.f.size + c.v.size : Nat) : Int) ≤ r
    · rw [szR_pos hsz2]
      have hcf2 : c.f.size ≤ 1048576 := by omega
      have hcv2 : c.v.size ≤ 1048576 := by omega
      have hge2 : 0 ≤ r - ((c.f.size + c.v.size : Nat) : Int) := by omega
      generalize r - ((c.f.size + c.v.size : Nat) : Int) = r2 at *
      clear hsz2 hge hle
      have SS : Hid (BSmall ks ps es) := BSmall.of hszA
      have hsA : sumN (fun e => e.fs.length) es ≤ 1048576 := by
        have := sum_fs_le es
        unfold szBook szEnts at hszA
        omega
      have GA : Hid (∀ wx : World, Below w.heap.size w wx → Calls Tryz.prog 9 #[.agg #[.slice ak ks.length ck, .slice ap ps.length cp, .slice ae es.length ce]] wx fun e w' => ∃ uk up ue, e = .returned (.agg #[uk, up, ue]) ∧ BookOwn (wx.heap.size + 3) w' uk up ue ks ps es ∧ Below wx.heap.size wx w') := fun wx hx => toBook_own _ _ _ ks ps es wx (HA.out.keep hx) SS.out
      have GC : Hid (∀ wx : World, Calls Tryz.prog 10 #[.agg #[.string c.f, .int .i64 c.what, .int .i64 c.num, .string c.v]] wx fun e w' => e = .returned (.agg #[.string c.f, .int .i64 c.what, .int .i64 c.num, .string c.v]) ∧ Below wx.heap.size wx w') := fun wx => toChange_any c wx
      have GS : Hid (∀ (x y z : Value) (wx : World), BookAt wx x y z ks ps es → Calls Tryz.prog 8 #[.agg #[x, y, z], .agg #[.string c.f, .int .i64 c.what, .int .i64 c.num, .string c.v]] wx fun e w' => ∃ x y z, e = .returned (.tuple #[.agg #[x, y, z], .int .i64 (takeC ks ps es c)]) ∧ BookNew wx.heap.size w' x y z (takeT ks ps es ks) (takeT ks ps es ps) (takeE ks ps es c) ∧ Below wx.heap.size wx w') := fun _ _ _ wx h => specTake_any _ _ _ ks ps es c wx h NN.out SS.out hcf2 hcv2
      have GI : Hid (∀ (x y z : Value) (wx : World), BookAt wx x y z ks ps es → Calls Tryz.prog 11 #[.agg #[x, y, z], .agg #[.string c.f, .int .i64 c.what, .int .i64 c.num, .string c.v]] wx fun e w' => ∃ x y z, e = .returned (.tuple #[.agg #[x, y, z], .int .i64 (takeC ks ps es c)]) ∧ BookNew wx.heap.size w' x y z (takeT ks ps es ks) (takeT ks ps es ps) (takeE ks ps es c) ∧ Below wx.heap.size wx w') := fun _ _ _ wx h => planTake_any _ _ _ ks ps es c wx h NN.out SS.out hsA hcf2 hcv2
      have hR := takeE_small ks ps es c
      have hRk := takeT_small ks ps es ks SS.out.k
      have hRp := takeT_small ks ps es ps SS.out.p
      generalize takeC ks ps es c = TC at *
      generalize takeT ks ps es ks = rk at *
      generalize takeT ks ps es ps = rp at *
      generalize takeE ks ps es c = re at *
      obtain ⟨hRe, hRs⟩ := hR
      clear NN HA
      have hTC : (TC != TC) = false := by simp
      go_wp2
      go_cut [6, 7] (fun s6 s7 wc => ∃ (Xq : Nat) (xv yv zv : Value), s6 = .pointer (some ⟨Xq, 0, none⟩) ∧ s7 = .int .i64 TC ∧ Hid (Below w2.heap.size w2 wc ∧ wc.heap[Xq]? = some (.cells #[xv, yv, zv] 39 (0, 0)) ∧ BookNew w2.heap.size wc xv yv zv rk rp re ∧ w2.heap.size ≤ Xq))
      case first =>
        have HSS : Hid (∀ w' : World, Below w2.heap.size w2 w' → ((w'.cell? ⟨w.heap.size, 0, none⟩ = some (.slice ak ks.length ck) ∧ w'.cell? ⟨w.heap.size, 1, none⟩ = some (.slice ap ps.length cp) ∧ w'.cell? ⟨w.heap.size, 2, none⟩ = some (.slice ae es.length ce)) ∧ (w'.cell? ⟨w.heap.size + 1, 0, none⟩ = some (.string c.f) ∧ w'.cell? ⟨w.heap.size + 1, 1, none⟩ = some (.int .i64 c.what) ∧ w'.cell? ⟨w.heap.size + 1, 2, none⟩ = some (.int .i64 c.num) ∧ w'.cell? ⟨w.heap.size + 1, 3, none⟩ = some (.string c.v)))) := fun w' hx => by
          have hl := L2.out.call hx
          exact ⟨⟨hl.cell 0 rfl 0, hl.cell 0 rfl 1, hl.cell 0 rfl 2⟩, ⟨hl.cell 1 rfl 0, hl.cell 1 rfl 1, hl.cell 1 rfl 2, hl.cell 1 rfl 3⟩⟩
        refine wp_region_noPanic ?_
        refine wp_region_held_drew (S := fun w' => (w'.cell? ⟨w.heap.size, 0, none⟩ = some (.slice ak ks.length ck) ∧ w'.cell? ⟨w.heap.size, 1, none⟩ = some (.slice ap ps.length cp) ∧ w'.cell? ⟨w.heap.size, 2, none⟩ = some (.slice ae es.length ce)) ∧ (w'.cell? ⟨w.heap.size + 1, 0, none⟩ = some (.string c.f) ∧ w'.cell? ⟨w.heap.size + 1, 1, none⟩ = some (.int .i64 c.what) ∧ w'.cell? ⟨w.heap.size + 1, 2, none⟩ = some (.int .i64 c.num) ∧ w'.cell? ⟨w.heap.size + 1, 3, none⟩ = some (.string c.v))) (by kernel_rfl) ?_ (fun hHeld => ?_)
        · exact HSS.out _ (Below.refl _ _).drew
        have HBW : Hid (Below w2.heap.size w2 w2.drew) := (Below.refl _ _).drew
        generalize w2.drew = W0 at *
        refine wpAnyH_take (i := 0) (v := ?_) rfl (by kernel_rfl) (by kernel_rfl) (by kernel_rfl) (fun _ _ _ h => h) (Or.inl ⟨by rfl, ?_⟩) (by assumption) ?_
        rotate_left
        · intro w hSw; (try dsimp only at hSw); go_simp; try with_reducible rfl
        simp only [Act.put, List.setIfInBounds_toArray, List.set_cons_zero, List.set_cons_succ, List.getElem_toArray, List.getElem_cons_succ, List.getElem_cons_zero]
        refine wpAnyH_take (i := 2) (v := ?_) rfl (by kernel_rfl) (by kernel_rfl) (by kernel_rfl) (fun _ _ _ h => h) (Or.inl ⟨by rfl, ?_⟩) (by assumption) ?_
        rotate_left
        · intro w hSw; (try dsimp only at hSw); go_simp; try with_reducible rfl
        simp only [Act.put, List.setIfInBounds_toArray, List.set_cons_zero, List.set_cons_succ, List.getElem_toArray, List.getElem_cons_succ, List.getElem_cons_zero]
        clear hHeld
        refine wpAnyH_ready (rs := [1, 8]) (by kernel_rfl) (by simp) ?_
        refine AllReadyH.cons rfl (fun K hK => ?_) (AllReadyH.cons rfl (fun K hK => ?_) AllReadyH.nil)
        · go_simp
          refine (GA.out _ (below_step L2.out.below HBW.out)).mono ?_
          rintro e W1 ⟨kb, pb, eb, rfl, hBb, hbb⟩
          have HB2 : Hid (Below w2.heap.size w2 W1) := below_step HBW.out hbb
          have HBK : Hid (BookAt W1 kb pb eb ks ps es) := hBb.at SS.out
          refine hK.out _ _ (HSS.out _ HB2.out) (fun _ => ?_)
          clear hBb hbb
          clear hK K HBW
          have HBW := HB2
          clear HB2
          refine wpAnyH_ready (rs := [3, 8]) (by kernel_rfl) (by simp) ?_
          refine AllReadyH.cons rfl (fun K hK => ?_) (AllReadyH.cons rfl (fun K hK => ?_) AllReadyH.nil)
          · go_simp
            refine (GC.out _).mono ?_
            rintro e W2 ⟨rfl, hbb⟩
            have HB2 : Hid (Below w2.heap.size w2 W2) := below_step HBW.out hbb
            have HBK2 := toHidC (HBK.out.keep hbb)
            refine hK.out _ _ (HSS.out _ HB2.out) (fun _ => ?_)
            clear hbb
            clear hK K HBW HBK
            have HBW := HB2
            clear HB2
            have HBK := HBK2
            clear HBK2
            refine wpAnyH_ready (rs := [4, 8]) (by kernel_rfl) (by simp) ?_
            refine AllReadyH.cons rfl (fun K hK => ?_) (AllReadyH.cons rfl (fun K hK => ?_) AllReadyH.nil)
            · go_simp
              refine (GS.out _ _ _ _ HBK.out).mono ?_
              rintro e W3 ⟨xq, yq, zq, rfl, hNq, hbb⟩
              have HB2 : Hid (Below w2.heap.size w2 W3) := below_step HBW.out hbb
              have HN : Hid (BookNew w2.heap.size W3 xq yq zq rk rp re) := hNq.mono HBW.out.size
              obtain ⟨x1, x2, y1, y2, z1, z2, rfl, rfl, rfl⟩ := hNq.slices
              have hHeld := HSS.out _ HB2.out
              refine hK.out _ _ hHeld (fun _ => ?_)
              clear hbb hNq HBK
              clear hK K HBW
              have HBW := HB2
              clear HB2
              refine wpAnyH_take (i := 5) (v := ?_) rfl (by kernel_rfl) (by kernel_rfl) (by kernel_rfl) (fun _ _ _ h => h) (Or.inl ⟨by rfl, ?_⟩) (by assumption) ?_
              rotate_left
              · intro w hSw; (try dsimp only at hSw); go_simp; try with_reducible rfl
              simp only [Act.put, List.setIfInBounds_toArray, List.set_cons_zero, List.set_cons_succ, List.getElem_toArray, List.getElem_cons_succ, List.getElem_cons_zero]
              refine wpAnyH_take (i := 6) (v := ?_) rfl (by kernel_rfl) (by kernel_rfl) (by kernel_rfl) (fun _ _ _ h => h) (Or.inl ⟨by rfl, ?_⟩) (by assumption) ?_
              rotate_left
              · intro w hSw; (try dsimp only at hSw); go_simp; try with_reducible rfl
              simp only [Act.put, List.setIfInBounds_toArray, List.set_cons_zero, List.set_cons_succ, List.getElem_toArray, List.getElem_cons_succ, List.getElem_cons_zero]
              refine wpAnyH_take (i := 7) (v := ?_) rfl (by kernel_rfl) (by kernel_rfl) (by kernel_rfl) (fun _ _ _ h => h) (Or.inl ⟨by rfl, ?_⟩) (by assumption) ?_
              rotate_left
              · intro w hSw; (try dsimp only at hSw); go_simp; try with_reducible rfl
              simp only [Act.put, List.setIfInBounds_toArray, List.set_cons_zero, List.set_cons_succ, List.getElem_toArray, List.getElem_cons_succ, List.getElem_cons_zero]
              clear hHeld
              refine wpAnyH_ready (rs := [8]) (by kernel_rfl) (by simp) ?_
              refine AllReadyH.cons rfl (fun K hK => ?_) AllReadyH.nil
              go_simp
              have hbb : Below W3.heap.size W3 (W3.alloc (.cells #[.slice none 0 0, .slice none 0 0, .slice none 0 0] 39)) := (Below.refl _ _).alloc (Nat.le_refl _) _
              have HB2 : Hid (Below w2.heap.size w2 (W3.alloc (.cells #[.slice none 0 0, .slice none 0 0, .slice none 0 0] 39))) := below_step HBW.out hbb
              have HN2 := toHidC (HN.out.keep hbb)
              have HXB : Hid ((W3.alloc (.cells #[.slice none 0 0, .slice none 0 0, .slice none 0 0] 39)).heap[W3.heap.size]? = some (.cells #[.slice none 0 0, .slice none 0 0, .slice none 0 0] 39 (0, 0))) := heap_newF W3 _
              have HXL : Hid (w2.heap.size ≤ W3.heap.size) := HBW.out.size
              refine hK.out _ _ (HSS.out _ HB2.out) (fun _ => ?_)
              clear hbb
              clear hK K HBW HN
              have HBW := HB2
              clear HB2
              have HN := HN2
              clear HN2
              generalize (W3.alloc (.cells #[.slice none 0 0, .slice none 0 0, .slice none 0 0] 39)) = W4 at *
              refine wpAnyH_ready (rs := [9]) (by kernel_rfl) (by simp) ?_
              refine AllReadyH.cons rfl (fun K hK => ?_) AllReadyH.nil
              refine step_store_rowC rfl 39 _ _ rfl (W3.heap.size) #[.slice x1 rk.length x2, .slice y1 rp.length y2, .slice z1 re.length z2] rfl rfl 39 _ HXB.out (by kernel_rfl) rfl (by simp [Value.oneCell']) ?_
              have HB2 : Hid (Below w2.heap.size w2 (W4.setRow (W3.heap.size) #[.slice x1 rk.length x2, .slice y1 rp.length y2, .slice z1 re.length z2])) := below_setRow HBW.out HXL.out _
              have HNF : Hid (BookNew w2.heap.size (W4.setRow (W3.heap.size) #[.slice x1 rk.length x2, .slice y1 rp.length y2, .slice z1 re.length z2]) (.slice x1 rk.length x2) (.slice y1 rp.length y2) (.slice z1 re.length z2) rk rp re) := HN.out.box HXB.out (grown_rowF _ _ _)
              have HXF : Hid ((W4.setRow (W3.heap.size) #[.slice x1 rk.length x2, .slice y1 rp.length y2, .slice z1 re.length z2]).heap[W3.heap.size]? = some (.cells #[.slice x1 rk.length x2, .slice y1 rp.length y2, .slice z1 re.length z2] 39 (0, 0))) := setRow_heap _ _ _ _ _ _ HXB.out
              have hHeld := HSS.out _ HB2.out
              refine hK.out _ _ hHeld (fun _ => ?_)
              clear hK K
              refine wpAnyH_take (i := 10) (v := ?_) rfl (by kernel_rfl) (by kernel_rfl) (by kernel_rfl) (fun _ _ _ h => h) (Or.inl ⟨by rfl, ?_⟩) (by assumption) ?_
              rotate_left
              · intro w hSw; (try dsimp only at hSw); go_simp; try with_reducible rfl
              simp only [Act.put, List.setIfInBounds_toArray, List.set_cons_zero, List.set_cons_succ, List.getElem_toArray, List.getElem_cons_succ, List.getElem_cons_zero]
              clear hHeld
              refine wpAnyH_done (by kernel_rfl) ?_ _
              refine NoPanic.normal ?_
              go_wp2_with fail
              go_meet
              exact ⟨W3.heap.size, _, _, _, rfl, rfl, HB2.out, HXF.out, HNF.out, HXL.out⟩
            · go_simp
              have hbb : Below W2.heap.size W2 (W2.alloc (.cells #[.slice none 0 0, .slice none 0 0, .slice none 0 0] 39)) := (Below.refl _ _).alloc (Nat.le_refl _) _
              have HB2 : Hid (Below w2.heap.size w2 (W2.alloc (.cells #[.slice none 0 0, .slice none 0 0, .slice none 0 0] 39))) := below_step HBW.out hbb
              have HBK2 := toHidC (HBK.out.keep hbb)
              have HXB : Hid ((W2.alloc (.cells #[.slice none 0 0, .slice none 0 0, .slice none 0 0] 39)).heap[W2.heap.size]? = some (.cells #[.slice none 0 0, .slice none 0 0, .slice none 0 0] 39 (0, 0))) := heap_newF W2 _
              have HXL : Hid (w2.heap.size ≤ W2.heap.size) := HBW.out.size
              refine hK.out _ _ (HSS.out _ HB2.out) (fun _ => ?_)
              clear hbb
              clear hK K HBW HBK
              have HBW := HB2
              clear HB2
              have HBK := HBK2
              clear HBK2
              generalize (W2.alloc (.cells #[.slice none 0 0, .slice none 0 0, .slice none 0 0] 39)) = W3 at *
              refine wpAnyH_ready (rs := [4]) (by kernel_rfl) (by simp) ?_
              refine AllReadyH.cons rfl (fun K hK => ?_) AllReadyH.nil
              go_simp
              refine (GS.out _ _ _ _ HBK.out).mono ?_
              rintro e W4 ⟨xq, yq, zq, rfl, hNq, hbb⟩
              have HB2 : Hid (Below w2.heap.size w2 W4) := below_step HBW.out hbb
              have HXB2 := toHidC ((hbb.block _ (Array.getElem?_eq_some_iff.1 HXB.out).1).trans HXB.out)
              have HN : Hid (BookNew w2.heap.size W4 xq yq zq rk rp re) := hNq.mono HBW.out.size
              obtain ⟨x1, x2, y1, y2, z1, z2, rfl, rfl, rfl⟩ := hNq.slices
              have hHeld := HSS.out _ HB2.out
              refine hK.out _ _ hHeld (fun _ => ?_)
              clear hbb hNq HBK
              clear hK K HBW HXB
              have HBW := HB2
              clear HB2
              have HXB := HXB2
              clear HXB2
              refine wpAnyH_take (i := 5) (v := ?_) rfl (by kernel_rfl) (by kernel_rfl) (by kernel_rfl) (fun _ _ _ h => h) (Or.inl ⟨by rfl, ?_⟩) (by assumption) ?_
              rotate_left
              · intro w hSw; (try dsimp only at hSw); go_simp; try with_reducible rfl
              simp only [Act.put, List.setIfInBounds_toArray, List.set_cons_zero, List.set_cons_succ, List.getElem_toArray, List.getElem_cons_succ, List.getElem_cons_zero]
              refine wpAnyH_take (i := 6) (v := ?_) rfl (by kernel_rfl) (by kernel_rfl) (by kernel_rfl) (fun _ _ _ h => h) (Or.inl ⟨by rfl, ?_⟩) (by assumption) ?_
              rotate_left
              · intro w hSw; (try dsimp only at hSw); go_simp; try with_reducible rfl
              simp only [Act.put, List.setIfInBounds_toArray, List.set_cons_zero, List.set_cons_succ, List.getElem_toArray, List.getElem_cons_succ, List.getElem_cons_zero]
              refine wpAnyH_take (i := 7) (v := ?_) rfl (by kernel_rfl) (by kernel_rfl) (by kernel_rfl) (fun _ _ _ h => h) (Or.inl ⟨by rfl, ?_⟩) (by assumption) ?_
              rotate_left
              · intro w hSw; (try dsimp only at hSw); go_simp; try with_reducible rfl
              simp only [Act.put, List.setIfInBounds_toArray, List.set_cons_zero, List.set_cons_succ, List.getElem_toArray, List.getElem_cons_succ, List.getElem_cons_zero]
              clear hHeld
              refine wpAnyH_ready (rs := [9]) (by kernel_rfl) (by simp) ?_
              refine AllReadyH.cons rfl (fun K hK => ?_) AllReadyH.nil
              refine step_store_rowC rfl 39 _ _ rfl (W2.heap.size) #[.slice x1 rk.length x2, .slice y1 rp.length y2, .slice z1 re.length z2] rfl rfl 39 _ HXB.out (by kernel_rfl) rfl (by simp [Value.oneCell']) ?_
              have HB2 : Hid (Below w2.heap.size w2 (W4.setRow (W2.heap.size) #[.slice x1 rk.length x2, .slice y1 rp.length y2, .slice z1 re.length z2])) := below_setRow HBW.out HXL.out _
              have HNF : Hid (BookNew w2.heap.size (W4.setRow (W2.heap.size) #[.slice x1 rk.length x2, .slice y1 rp.length y2, .slice z1 re.length z2]) (.slice x1 rk.length x2) (.slice y1 rp.length y2) (.slice z1 re.length z2) rk rp re) := HN.out.box HXB.out (grown_rowF _ _ _)
              have HXF : Hid ((W4.setRow (W2.heap.size) #[.slice x1 rk.length x2, .slice y1 rp.length y2, .slice z1 re.length z2]).heap[W2.heap.size]? = some (.cells #[.slice x1 rk.length x2, .slice y1 rp.length y2, .slice z1 re.length z2] 39 (0, 0))) := setRow_heap _ _ _ _ _ _ HXB.out
              have hHeld := HSS.out _ HB2.out
              refine hK.out _ _ hHeld (fun _ => ?_)
              clear hK K
              refine wpAnyH_take (i := 10) (v := ?_) rfl (by kernel_rfl) (by kernel_rfl) (by kernel_rfl) (fun _ _ _ h => h) (Or.inl ⟨by rfl, ?_⟩) (by assumption) ?_
              rotate_left
              · intro w hSw; (try dsimp only at hSw); go_simp; try with_reducible rfl
              simp only [Act.put, List.setIfInBounds_toArray, List.set_cons_zero, List.set_cons_succ, List.getElem_toArray, List.getElem_cons_succ, List.getElem_cons_zero]
              clear hHeld
              refine wpAnyH_done (by kernel_rfl) ?_ _
              refine NoPanic.normal ?_
              go_wp2_with fail
              go_meet
              exact ⟨W2.heap.size, _, _, _, rfl, rfl, HB2.out, HXF.out, HNF.out, HXL.out⟩
          · go_simp
            have hbb : Below W1.heap.size W1 (W1.alloc (.cells #[.slice none 0 0, .slice none 0 0, .slice none 0 0] 39)) := (Below.refl _ _).alloc (Nat.le_refl _) _
            have HB2 : Hid (Below w2.heap.size w2 (W1.alloc (.cells #[.slice none 0 0, .slice none 0 0, .slice none 0 0] 39))) := below_step HBW.out hbb
            have HBK2 := toHidC (HBK.out.keep hbb)
            have HXB : Hid ((W1.alloc (.cells #[.slice none 0 0, .slice none 0 0, .slice none 0 0] 39)).heap[W1.heap.size]? = some (.cells #[.slice none 0 0, .slice none 0 0, .slice none 0 0] 39 (0, 0))) := heap_newF W1 _
            have HXL : Hid (w2.heap.size ≤ W1.heap.size) := HBW.out.size
            refine hK.out _ _ (HSS.out _ HB2.out) (fun _ => ?_)
            clear hbb
            clear hK K HBW HBK
            have HBW := HB2
            clear HB2
            have HBK := HBK2
            clear HBK2
            generalize (W1.alloc (.cells #[.slice none 0 0, .slice none 0 0, .slice none 0 0] 39)) = W2 at *
            refine wpAnyH_ready (rs := [3]) (by kernel_rfl) (by simp) ?_
            refine AllReadyH.cons rfl (fun K hK => ?_) AllReadyH.nil
            go_simp
            refine (GC.out _).mono ?_
            rintro e W3 ⟨rfl, hbb⟩
            have HB2 : Hid (Below w2.heap.size w2 W3) := below_step HBW.out hbb
            have HBK2 := toHidC (HBK.out.keep hbb)
            have HXB2 := toHidC ((hbb.block _ (Array.getElem?_eq_some_iff.1 HXB.out).1).trans HXB.out)
            refine hK.out _ _ (HSS.out _ HB2.out) (fun _ => ?_)
            clear hbb
            clear hK K HBW HBK HXB
            have HBW := HB2
            clear HB2
            have HBK := HBK2
            clear HBK2
            have HXB := HXB2
            clear HXB2
            refine wpAnyH_ready (rs := [4]) (by kernel_rfl) (by simp) ?_
            refine AllReadyH.cons rfl (fun K hK => ?_) AllReadyH.nil
            go_simp
            refine (GS.out _ _ _ _ HBK.out).mono ?_
            rintro e W4 ⟨xq, yq, zq, rfl, hNq, hbb⟩
            have HB2 : Hid (Below w2.heap.size w2 W4) := below_step HBW.out hbb
            have HXB2 := toHidC ((hbb.block _ (Array.getElem?_eq_some_iff.1 HXB.out).1).trans HXB.out)
            have HN : Hid (BookNew w2.heap.size W4 xq yq zq rk rp re) := hNq.mono HBW.out.size
            obtain ⟨x1, x2, y1, y2, z1, z2, rfl, rfl, rfl⟩ := hNq.slices
            have hHeld := HSS.out _ HB2.out
            refine hK.out _ _ hHeld (fun _ => ?_)
            clear hbb hNq HBK
            clear hK K HBW HXB
            have HBW := HB2
            clear HB2
            have HXB := HXB2
            clear HXB2
            refine wpAnyH_take (i := 5) (v := ?_) rfl (by kernel_rfl) (by kernel_rfl) (by kernel_rfl) (fun _ _ _ h => h) (Or.inl ⟨by rfl, ?_⟩) (by assumption) ?_
            rotate_left
            · intro w hSw; (try dsimp only at hSw); go_simp; try with_reducible rfl
            simp only [Act.put, List.setIfInBounds_toArray, List.set_cons_zero, List.set_cons_succ, List.getElem_toArray, List.getElem_cons_succ, List.getElem_cons_zero]
            refine wpAnyH_take (i := 6) (v := ?_) rfl (by kernel_rfl) (by kernel_rfl) (by kernel_rfl) (fun _ _ _ h => h) (Or.inl ⟨by rfl, ?_⟩) (by assumption) ?_
            rotate_left
            · intro w hSw; (try dsimp only at hSw); go_simp; try with_reducible rfl
            simp only [Act.put, List.setIfInBounds_toArray, List.set_cons_zero, List.set_cons_succ, List.getElem_toArray, List.getElem_cons_succ, List.getElem_cons_zero]
            refine wpAnyH_take (i := 7) (v := ?_) rfl (by kernel_rfl) (by kernel_rfl) (by kernel_rfl) (fun _ _ _ h => h) (Or.inl ⟨by rfl, ?_⟩) (by assumption) ?_
            rotate_left
            · intro w hSw; (try dsimp only at hSw); go_simp; try with_reducible rfl
            simp only [Act.put, List.setIfInBounds_toArray, List.set_cons_zero, List.set_cons_succ, List.getElem_toArray, List.getElem_cons_succ, List.getElem_cons_zero]
            clear hHeld
            refine wpAnyH_ready (rs := [9]) (by kernel_rfl) (by simp) ?_
            refine AllReadyH.cons rfl (fun K hK => ?_) AllReadyH.nil
            refine step_store_rowC rfl 39 _ _ rfl (W1.heap.size) #[.slice x1 rk.length x2, .slice y1 rp.length y2, .slice z1 re.length z2] rfl rfl 39 _ HXB.out (by kernel_rfl) rfl (by simp [Value.oneCell']) ?_
            have HB2 : Hid (Below w2.heap.size w2 (W4.setRow (W1.heap.size) #[.slice x1 rk.length x2, .slice y1 rp.length y2, .slice z1 re.length z2])) := below_setRow HBW.out HXL.out _
            have HNF : Hid (BookNew w2.heap.size (W4.setRow (W1.heap.size) #[.slice x1 rk.length x2, .slice y1 rp.length y2, .slice z1 re.length z2]) (.slice x1 rk.length x2) (.slice y1 rp.length y2) (.slice z1 re.length z2) rk rp re) := HN.out.box HXB.out (grown_rowF _ _ _)
            have HXF : Hid ((W4.setRow (W1.heap.size) #[.slice x1 rk.length x2, .slice y1 rp.length y2, .slice z1 re.length z2]).heap[W1.heap.size]? = some (.cells #[.slice x1 rk.length x2, .slice y1 rp.length y2, .slice z1 re.length z2] 39 (0, 0))) := setRow_heap _ _ _ _ _ _ HXB.out
            have hHeld := HSS.out _ HB2.out
            refine hK.out _ _ hHeld (fun _ => ?_)
            clear hK K
            refine wpAnyH_take (i := 10) (v := ?_) rfl (by kernel_rfl) (by kernel_rfl) (by kernel_rfl) (fun _ _ _ h => h) (Or.inl ⟨by rfl, ?_⟩) (by assumption) ?_
            rotate_left
            · intro w hSw; (try dsimp only at hSw); go_simp; try with_reducible rfl
            simp only [Act.put, List.setIfInBounds_toArray, List.set_cons_zero, List.set_cons_succ, List.getElem_toArray, List.getElem_cons_succ, List.getElem_cons_zero]
            clear hHeld
            refine wpAnyH_done (by kernel_rfl) ?_ _
            refine NoPanic.normal ?_
            go_wp2_with fail
            go_meet
            exact ⟨W1.heap.size, _, _, _, rfl, rfl, HB2.out, HXF.out, HNF.out, HXL.out⟩
        · go_simp
          have hbb : Below W0.heap.size W0 (W0.alloc (.cells #[.slice none 0 0, .slice none 0 0, .slice none 0 0] 39)) := (Below.refl _ _).alloc (Nat.le_refl _) _
          have HB2 : Hid (Below w2.heap.size w2 (W0.alloc (.cells #[.slice none 0 0, .slice none 0 0, .slice none 0 0] 39))) := below_step HBW.out hbb
          have HXB : Hid ((W0.alloc (.cells #[.slice none 0 0, .slice none 0 0, .slice none 0 0] 39)).heap[W0.heap.size]? = some (.cells #[.slice none 0 0, .slice none 0 0, .slice none 0 0] 39 (0, 0))) := heap_newF W0 _
          have HXL : Hid (w2.heap.size ≤ W0.heap.size) := HBW.out.size
          refine hK.out _ _ (HSS.out _ HB2.out) (fun _ => ?_)
          clear hbb
          clear hK K HBW
          have HBW := HB2
          clear HB2
          generalize (W0.alloc (.cells #[.slice none 0 0, .slice none 0 0, .slice none 0 0] 39)) = W1 at *
          refine wpAnyH_ready (rs := [1]) (by kernel_rfl) (by simp) ?_
          refine AllReadyH.cons rfl (fun K hK => ?_) AllReadyH.nil
          go_simp
          refine (GA.out _ (below_step L2.out.below HBW.out)).mono ?_
          rintro e W2 ⟨kb, pb, eb, rfl, hBb, hbb⟩
          have HB2 : Hid (Below w2.heap.size w2 W2) := below_step HBW.out hbb
          have HXB2 := toHidC ((hbb.block _ (Array.getElem?_eq_some_iff.1 HXB.out).1).trans HXB.out)
          have HBK : Hid (BookAt W2 kb pb eb ks ps es) := hBb.at SS.out
          refine hK.out _ _ (HSS.out _ HB2.out) (fun _ => ?_)
          clear hBb hbb
          clear hK K HBW HXB
          have HBW := HB2
          clear HB2
          have HXB := HXB2
          clear HXB2
          refine wpAnyH_ready (rs := [3]) (by kernel_rfl) (by simp) ?_
          refine AllReadyH.cons rfl (fun K hK => ?_) AllReadyH.nil
          go_simp
          refine (GC.out _).mono ?_
          rintro e W3 ⟨rfl, hbb⟩
          have HB2 : Hid (Below w2.heap.size w2 W3) := below_step HBW.out hbb
          have HBK2 := toHidC (HBK.out.keep hbb)
          have HXB2 := toHidC ((hbb.block _ (Array.getElem?_eq_some_iff.1 HXB.out).1).trans HXB.out)
          refine hK.out _ _ (HSS.out _ HB2.out) (fun _ => ?_)
          clear hbb
          clear hK K HBW HBK HXB
          have HBW := HB2
          clear HB2
          have HBK := HBK2
          clear HBK2
          have HXB := HXB2
          clear HXB2
          refine wpAnyH_ready (rs := [4]) (by kernel_rfl) (by simp) ?_
          refine AllReadyH.cons rfl (fun K hK => ?_) AllReadyH.nil
          go_simp
          refine (GS.out _ _ _ _ HBK.out).mono ?_
          rintro e W4 ⟨xq, yq, zq, rfl, hNq, hbb⟩
          have HB2 : Hid (Below w2.heap.size w2 W4) := below_step HBW.out hbb
          have HXB2 := toHidC ((hbb.block _ (Array.getElem?_eq_some_iff.1 HXB.out).1).trans HXB.out)
          have HN : Hid (BookNew w2.heap.size W4 xq yq zq rk rp re) := hNq.mono HBW.out.size
          obtain ⟨x1, x2, y1, y2, z1, z2, rfl, rfl, rfl⟩ := hNq.slices
          have hHeld := HSS.out _ HB2.out
          refine hK.out _ _ hHeld (fun _ => ?_)
          clear hbb hNq HBK
          clear hK K HBW HXB
          have HBW := HB2
          clear HB2
          have HXB := HXB2
          clear HXB2
          refine wpAnyH_take (i := 5) (v := ?_) rfl (by kernel_rfl) (by kernel_rfl) (by kernel_rfl) (fun _ _ _ h => h) (Or.inl ⟨by rfl, ?_⟩) (by assumption) ?_
          rotate_left
          · intro w hSw; (try dsimp only at hSw); go_simp; try with_reducible rfl
          simp only [Act.put, List.setIfInBounds_toArray, List.set_cons_zero, List.set_cons_succ, List.getElem_toArray, List.getElem_cons_succ, List.getElem_cons_zero]
          refine wpAnyH_take (i := 6) (v := ?_) rfl (by kernel_rfl) (by kernel_rfl) (by kernel_rfl) (fun _ _ _ h => h) (Or.inl ⟨by rfl, ?_⟩) (by assumption) ?_
          rotate_left
          · intro w hSw; (try dsimp only at hSw); go_simp; try with_reducible rfl
          simp only [Act.put, List.setIfInBounds_toArray, List.set_cons_zero, List.set_cons_succ, List.getElem_toArray, List.getElem_cons_succ, List.getElem_cons_zero]
          refine wpAnyH_take (i := 7) (v := ?_) rfl (by kernel_rfl) (by kernel_rfl) (by kernel_rfl) (fun _ _ _ h => h) (Or.inl ⟨by rfl, ?_⟩) (by assumption) ?_
          rotate_left
          · intro w hSw; (try dsimp only at hSw); go_simp; try with_reducible rfl
          simp only [Act.put, List.setIfInBounds_toArray, List.set_cons_zero, List.set_cons_succ, List.getElem_toArray, List.getElem_cons_succ, List.getElem_cons_zero]
          clear hHeld
          refine wpAnyH_ready (rs := [9]) (by kernel_rfl) (by simp) ?_
          refine AllReadyH.cons rfl (fun K hK => ?_) AllReadyH.nil
          refine step_store_rowC rfl 39 _ _ rfl (W0.heap.size) #[.slice x1 rk.length x2, .slice y1 rp.length y2, .slice z1 re.length z2] rfl rfl 39 _ HXB.out (by kernel_rfl) rfl (by simp [Value.oneCell']) ?_
          have HB2 : Hid (Below w2.heap.size w2 (W4.setRow (W0.heap.size) #[.slice x1 rk.length x2, .slice y1 rp.length y2, .slice z1 re.length z2])) := below_setRow HBW.out HXL.out _
          have HNF : Hid (BookNew w2.heap.size (W4.setRow (W0.heap.size) #[.slice x1 rk.length x2, .slice y1 rp.length y2, .slice z1 re.length z2]) (.slice x1 rk.length x2) (.slice y1 rp.length y2) (.slice z1 re.length z2) rk rp re) := HN.out.box HXB.out (grown_rowF _ _ _)
          have HXF : Hid ((W4.setRow (W0.heap.size) #[.slice x1 rk.length x2, .slice y1 rp.length y2, .slice z1 re.length z2]).heap[W0.heap.size]? = some (.cells #[.slice x1 rk.length x2, .slice y1 rp.length y2, .slice z1 re.length z2] 39 (0, 0))) := setRow_heap _ _ _ _ _ _ HXB.out
          have hHeld := HSS.out _ HB2.out
          refine hK.out _ _ hHeld (fun _ => ?_)
          clear hK K
          refine wpAnyH_take (i := 10) (v := ?_) rfl (by kernel_rfl) (by kernel_rfl) (by kernel_rfl) (fun _ _ _ h => h) (Or.inl ⟨by rfl, ?_⟩) (by assumption) ?_
          rotate_left
          · intro w hSw; (try dsimp only at hSw); go_simp; try with_reducible rfl
          simp only [Act.put, List.setIfInBounds_toArray, List.set_cons_zero, List.set_cons_succ, List.getElem_toArray, List.getElem_cons_succ, List.getElem_cons_zero]
          clear hHeld
          refine wpAnyH_done (by kernel_rfl) ?_ _
          refine NoPanic.normal ?_
          go_wp2_with fail
          go_meet
          exact ⟨W0.heap.size, _, _, _, rfl, rfl, HB2.out, HXF.out, HNF.out, HXL.out⟩
      case rest =>
        obtain ⟨X, xv, yv, zv, rfl, rfl, hq⟩ := hcut
        obtain ⟨x1, x2, y1, y2, z1, z2, rfl, rfl, rfl⟩ := hq.out.2.2.1.slices
        have L3 : Hid (Bxs w wc [(X, #[.slice x1 rk.length x2, .slice y1 rp.length y2, .slice z1 re.length z2], 39), (w.heap.size, #[.slice ak ks.length ck, .slice ap ps.length cp, .slice ae es.length ce], 28), (w.heap.size + 1, #[.string c.f, .int .i64 c.what, .int .i64 c.num, .string c.v], 30)]) := (L2.out.call hq.out.1).push hq.out.2.1
        have V3 : Hid (BookNew w2.heap.size wc (.slice x1 rk.length x2) (.slice y1 rp.length y2) (.slice z1 re.length z2) rk rp re) := hq.out.2.2.1
        have hXq : w2.heap.size ≤ X := hq.out.2.2.2
        clear hq L2
        generalize wc = w3 at *
        obtain ⟨a0, a1, a2⟩ : w3.cell? ⟨w.heap.size, 0, none⟩ = some (.slice ak ks.length ck) ∧ w3.cell? ⟨w.heap.size, 1, none⟩ = some (.slice ap ps.length cp) ∧ w3.cell? ⟨w.heap.size, 2, none⟩ = some (.slice ae es.length ce) := ⟨L3.out.cell 1 rfl 0, L3.out.cell 1 rfl 1, L3.out.cell 1 rfl 2⟩
        have hz3 : w.heap.size + 1 < w3.heap.size := L3.out.lt (p := (w.heap.size + 1, #[.string c.f, .int .i64 c.what, .int .i64 c.num, .string c.v], 30)) (by simp)
        have hX3 : X < w3.heap.size := L3.out.lt (p := (X, #[.slice x1 rk.length x2, .slice y1 rp.length y2, .slice z1 re.length z2], 39)) (by simp)
        go_wp2_with fail
        refine (GA.out _ L3.out.below).mono ?_
        rintro e w6 ⟨kv6, pv6, ev6, rfl, hB6, hb6⟩
        obtain ⟨⟨k6, k6', rfl, -, -, -⟩, ⟨p6, p6', rfl, -, -, -⟩, ⟨e6, e6', rfl, -, -, -⟩⟩ := hB6.at SS.out
        have BA6 : Hid (BookAt w6 (.slice k6 ks.length k6') (.slice p6 ps.length p6') (.slice e6 es.length e6') ks ps es) := hB6.at SS.out
        have OW6 : Hid (BookOwn (w3.heap.size + 3) w6 (.slice k6 ks.length k6') (.slice p6 ps.length p6') (.slice e6 es.length e6') ks ps es) := hB6
        have L6 : Hid (Bxs w w6 [(X, #[.slice x1 rk.length x2, .slice y1 rp.length y2, .slice z1 re.length z2], 39), (w.heap.size, #[.slice ak ks.length ck, .slice ap ps.length cp, .slice ae es.length ce], 28), (w.heap.size + 1, #[.string c.f, .int .i64 c.what, .int .i64 c.num, .string c.v], 30)]) := L3.out.call hb6
        have V6 : Hid (BookNew w2.heap.size w6 (.slice x1 rk.length x2) (.slice y1 rp.length y2) (.slice z1 re.length z2) rk rp re) := V3.out.keep hb6
        have hz6 : w3.heap.size ≤ w6.heap.size := hb6.size
        have VL : Hid (∀ j, w2.heap.size ≤ j → j < w3.heap.size → True) := fun _ _ _ => trivial
        have VB : Hid (∀ wx : World, Below w3.heap.size w3 wx → BookNew w2.heap.size wx (.slice x1 rk.length x2) (.slice y1 rp.length y2) (.slice z1 re.length z2) rk rp re) := fun wx hx => V3.out.keep hx
        have T3 : Hid (Below w3.heap.size w3 w6) := hb6
        clear hb6 hB6 a0 a1 a2 L3 V3 VL V6
        have B7 : Hid (Below w6.heap.size w6 (w6.alloc (.cells #[.slice k6 ks.length k6', .slice p6 ps.length p6', .slice e6 es.length e6'] 39))) := (Below.refl _ _).alloc (Nat.le_refl _) _
        have L7 : Hid (Bxs w (w6.alloc (.cells #[.slice k6 ks.length k6', .slice p6 ps.length p6', .slice e6 es.length e6'] 39)) [(w6.heap.size, #[.slice k6 ks.length k6', .slice p6 ps.length p6', .slice e6 es.length e6'], 39), (X, #[.slice x1 rk.length x2, .slice y1 rp.length y2, .slice z1 re.length z2], 39), (w.heap.size, #[.slice ak ks.length ck, .slice ap ps.length cp, .slice ae es.length ce], 28), (w.heap.size + 1, #[.string c.f, .int .i64 c.what, .int .i64 c.num, .string c.v], 30)]) := (L6.out.call B7.out).push (heap_newF w6 _)
        have T7 : Hid (Below w3.heap.size w3 (w6.alloc (.cells #[.slice k6 ks.length k6', .slice p6 ps.length p6', .slice e6 es.length e6'] 39))) := below_step T3.out B7.out
        have BA7 : Hid (BookAt (w6.alloc (.cells #[.slice k6 ks.length k6', .slice p6 ps.length p6', .slice e6 es.length e6'] 39)) (.slice k6 ks.length k6') (.slice p6 ps.length p6') (.slice e6 es.length e6') ks ps es) := BA6.out.keep B7.out
        have hs7 : (w6.alloc (.cells #[.slice k6 ks.length k6', .slice p6 ps.length p6', .slice e6 es.length e6'] 39)).heap.size = w6.heap.size + 1 := by simp
        have HS7 := toHidC hs7
        clear hs7 L6 BA6
        go_wp2
        generalize w6.alloc (.cells #[.slice k6 ks.length k6', .slice p6 ps.length p6', .slice e6 es.length e6'] 39) = w7 at *
        go_cut [9, 10] (fun s9 s10 wc => ∃ (Xq : Nat) (xv yv zv : Value), s9 = .pointer (some ⟨Xq, 0, none⟩) ∧ s10 = .int .i64 TC ∧ Hid (Below w7.heap.size w7 wc ∧ wc.heap[Xq]? = some (.cells #[xv, yv, zv] 39 (0, 0)) ∧ BookNew w7.heap.size wc xv yv zv rk rp re ∧ w7.heap.size ≤ Xq))
        case first =>
          have HSS : Hid (∀ w' : World, Below w7.heap.size w7 w' → ((w'.cell? ⟨w6.heap.size, 0, none⟩ = some (.slice k6 ks.length k6') ∧ w'.cell? ⟨w6.heap.size, 1, none⟩ = some (.slice p6 ps.length p6') ∧ w'.cell? ⟨w6.heap.size, 2, none⟩ = some (.slice e6 es.length e6')) ∧ (w'.cell? ⟨w.heap.size + 1, 0, none⟩ = some (.string c.f) ∧ w'.cell? ⟨w.heap.size + 1, 1, none⟩ = some (.int .i64 c.what) ∧ w'.cell? ⟨w.heap.size + 1, 2, none⟩ = some (.int .i64 c.num) ∧ w'.cell? ⟨w.heap.size + 1, 3, none⟩ = some (.string c.v)))) := fun w' hx => by
            have hl := L7.out.call hx
            exact ⟨⟨hl.cell 0 rfl 0, hl.cell 0 rfl 1, hl.cell 0 rfl 2⟩, ⟨hl.cell 3 rfl 0, hl.cell 3 rfl 1, hl.cell 3 rfl 2, hl.cell 3 rfl 3⟩⟩
          refine wp_region_noPanic ?_
          refine wp_region_held_drew (S := fun w' => (w'.cell? ⟨w6.heap.size, 0, none⟩ = some (.slice k6 ks.length k6') ∧ w'.cell? ⟨w6.heap.size, 1, none⟩ = some (.slice p6 ps.length p6') ∧ w'.cell? ⟨w6.heap.size, 2, none⟩ = some (.slice e6 es.length e6')) ∧ (w'.cell? ⟨w.heap.size + 1, 0, none⟩ = some (.string c.f) ∧ w'.cell? ⟨w.heap.size + 1, 1, none⟩ = some (.int .i64 c.what) ∧ w'.cell? ⟨w.heap.size + 1, 2, none⟩ = some (.int .i64 c.num) ∧ w'.cell? ⟨w.heap.size + 1, 3, none⟩ = some (.string c.v))) (by kernel_rfl) ?_ (fun hHeld => ?_)
          · exact HSS.out _ (Below.refl _ _).drew
          have HBW : Hid (Below w7.heap.size w7 w7.drew) := (Below.refl _ _).drew
          generalize w7.drew = W0 at *
          refine wpAnyH_take (i := 0) (v := ?_) rfl (by kernel_rfl) (by kernel_rfl) (by kernel_rfl) (fun _ _ _ h => h) (Or.inl ⟨by rfl, ?_⟩) (by assumption) ?_
          rotate_left
          · intro w hSw; (try dsimp only at hSw); go_simp; try with_reducible rfl
          simp only [Act.put, List.setIfInBounds_toArray, List.set_cons_zero, List.set_cons_succ, List.getElem_toArray, List.getElem_cons_succ, List.getElem_cons_zero]
          refine wpAnyH_take (i := 1) (v := ?_) rfl (by kernel_rfl) (by kernel_rfl) (by kernel_rfl) (fun _ _ _ h => h) (Or.inl ⟨by rfl, ?_⟩) (by assumption) ?_
          rotate_left
          · intro w hSw; (try dsimp only at hSw); go_simp; try with_reducible rfl
          simp only [Act.put, List.setIfInBounds_toArray, List.set_cons_zero, List.set_cons_succ, List.getElem_toArray, List.getElem_cons_succ, List.getElem_cons_zero]
          clear hHeld
          refine wpAnyH_ready (rs := [2, 7]) (by kernel_rfl) (by simp) ?_
          refine AllReadyH.cons rfl (fun K hK => ?_) (AllReadyH.cons rfl (fun K hK => ?_) AllReadyH.nil)
          · go_simp
            refine (GC.out _).mono ?_
            rintro e W1 ⟨rfl, hbb⟩
            have HB2 : Hid (Below w7.heap.size w7 W1) := below_step HBW.out hbb
            refine hK.out _ _ (HSS.out _ HB2.out) (fun _ => ?_)
            clear hbb
            clear hK K HBW
            have HBW := HB2
            clear HB2
            refine wpAnyH_ready (rs := [3, 7]) (by kernel_rfl) (by simp) ?_
            refine AllReadyH.cons rfl (fun K hK => ?_) (AllReadyH.cons rfl (fun K hK => ?_) AllReadyH.nil)
            · go_simp
              refine (GI.out _ _ _ _ (BA7.out.keep HBW.out)).mono ?_
              rintro e W2 ⟨xq, yq, zq, rfl, hNq, hbb⟩
              have HB2 : Hid (Below w7.heap.size w7 W2) := below_step HBW.out hbb
              have HN : Hid (BookNew w7.heap.size W2 xq yq zq rk rp re) := hNq.mono HBW.out.size
              obtain ⟨u1, u2, v1, v2, t1, t2, rfl, rfl, rfl⟩ := hNq.slices
              have hHeld := HSS.out _ HB2.out
              refine hK.out _ _ hHeld (fun _ => ?_)
              clear hbb hNq
              clear hK K HBW
              have HBW := HB2
              clear HB2
              refine wpAnyH_take (i := 4) (v := ?_) rfl (by kernel_rfl) (by kernel_rfl) (by kernel_rfl) (fun _ _ _ h => h) (Or.inl ⟨by rfl, ?_⟩) (by assumption) ?_
              rotate_left
              · intro w hSw; (try dsimp only at hSw); go_simp; try with_reducible rfl
              simp only [Act.put, List.setIfInBounds_toArray, List.set_cons_zero, List.set_cons_succ, List.getElem_toArray, List.getElem_cons_succ, List.getElem_cons_zero]
              refine wpAnyH_take (i := 5) (v := ?_) rfl (by kernel_rfl) (by kernel_rfl) (by kernel_rfl) (fun _ _ _ h => h) (Or.inl ⟨by rfl, ?_⟩) (by assumption) ?_
              rotate_left
              · intro w hSw; (try dsimp only at hSw); go_simp; try with_reducible rfl
              simp only [Act.put, List.setIfInBounds_toArray, List.set_cons_zero, List.set_cons_succ, List.getElem_toArray, List.getElem_cons_succ, List.getElem_cons_zero]
              refine wpAnyH_take (i := 6) (v := ?_) rfl (by kernel_rfl) (by kernel_rfl) (by kernel_rfl) (fun _ _ _ h => h) (Or.inl ⟨by rfl, ?_⟩) (by assumption) ?_
              rotate_left
              · intro w hSw; (try dsimp only at hSw); go_simp; try with_reducible rfl
              simp only [Act.put, List.setIfInBounds_toArray, List.set_cons_zero, List.set_cons_succ, List.getElem_toArray, List.getElem_cons_succ, List.getElem_cons_zero]
              clear hHeld
              refine wpAnyH_ready (rs := [7]) (by kernel_rfl) (by simp) ?_
              refine AllReadyH.cons rfl (fun K hK => ?_) AllReadyH.nil
              go_simp
              have hbb : Below W2.heap.size W2 (W2.alloc (.cells #[.slice none 0 0, .slice none 0 0, .slice none 0 0] 39)) := (Below.refl _ _).alloc (Nat.le_refl _) _
              have HB2 : Hid (Below w7.heap.size w7 (W2.alloc (.cells #[.slice none 0 0, .slice none 0 0, .slice none 0 0] 39))) := below_step HBW.out hbb
              have HN2 := toHidC (HN.out.keep hbb)
              have HXB : Hid ((W2.alloc (.cells #[.slice none 0 0, .slice none 0 0, .slice none 0 0] 39)).heap[W2.heap.size]? = some (.cells #[.slice none 0 0, .slice none 0 0, .slice none 0 0] 39 (0, 0))) := heap_newF W2 _
              have HXL : Hid (w7.heap.size ≤ W2.heap.size) := HBW.out.size
              refine hK.out _ _ (HSS.out _ HB2.out) (fun _ => ?_)
              clear hbb
              clear hK K HBW HN
              have HBW := HB2
              clear HB2
              have HN := HN2
              clear HN2
              generalize (W2.alloc (.cells #[.slice none 0 0, .slice none 0 0, .slice none 0 0] 39)) = W3 at *
              refine wpAnyH_ready (rs := [8]) (by kernel_rfl) (by simp) ?_
              refine AllReadyH.cons rfl (fun K hK => ?_) AllReadyH.nil
              refine step_store_rowC rfl 39 _ _ rfl (W2.heap.size) #[.slice u1 rk.length u2, .slice v1 rp.length v2, .slice t1 re.length t2] rfl rfl 39 _ HXB.out (by kernel_rfl) rfl (by simp [Value.oneCell']) ?_
              have HB2 : Hid (Below w7.heap.size w7 (W3.setRow (W2.heap.size) #[.slice u1 rk.length u2, .slice v1 rp.length v2, .slice t1 re.length t2])) := below_setRow HBW.out HXL.out _
              have HNF : Hid (BookNew w7.heap.size (W3.setRow (W2.heap.size) #[.slice u1 rk.length u2, .slice v1 rp.length v2, .slice t1 re.length t2]) (.slice u1 rk.length u2) (.slice v1 rp.length v2) (.slice t1 re.length t2) rk rp re) := HN.out.box HXB.out (grown_rowF _ _ _)
              have HXF : Hid ((W3.setRow (W2.heap.size) #[.slice u1 rk.length u2, .slice v1 rp.length v2, .slice t1 re.length t2]).heap[W2.heap.size]? = some (.cells #[.slice u1 rk.length u2, .slice v1 rp.length v2, .slice t1 re.length t2] 39 (0, 0))) := setRow_heap _ _ _ _ _ _ HXB.out
              have hHeld := HSS.out _ HB2.out
              refine hK.out _ _ hHeld (fun _ => ?_)
              clear hK K
              refine wpAnyH_take (i := 9) (v := ?_) rfl (by kernel_rfl) (by kernel_rfl) (by kernel_rfl) (fun _ _ _ h => h) (Or.inl ⟨by rfl, ?_⟩) (by assumption) ?_
              rotate_left
              · intro w hSw; (try dsimp only at hSw); go_simp; try with_reducible rfl
              simp only [Act.put, List.setIfInBounds_toArray, List.set_cons_zero, List.set_cons_succ, List.getElem_toArray, List.getElem_cons_succ, List.getElem_cons_zero]
              clear hHeld
              refine wpAnyH_done (by kernel_rfl) ?_ _
              refine NoPanic.normal ?_
              go_wp2_with fail
              go_meet
              exact ⟨W2.heap.size, _, _, _, rfl, rfl, HB2.out, HXF.out, HNF.out, HXL.out⟩
            · go_simp
              have hbb : Below W1.heap.size W1 (W1.alloc (.cells #[.slice none 0 0, .slice none 0 0, .slice none 0 0] 39)) := (Below.refl _ _).alloc (Nat.le_refl _) _
              have HB2 : Hid (Below w7.heap.size w7 (W1.alloc (.cells #[.slice none 0 0, .slice none 0 0, .slice none 0 0] 39))) := below_step HBW.out hbb
              have HXB : Hid ((W1.alloc (.cells #[.slice none 0 0, .slice none 0 0, .slice none 0 0] 39)).heap[W1.heap.size]? = some (.cells #[.slice none 0 0, .slice none 0 0, .slice none 0 0] 39 (0, 0))) := heap_newF W1 _
              have HXL : Hid (w7.heap.size ≤ W1.heap.size) := HBW.out.size
              refine hK.out _ _ (HSS.out _ HB2.out) (fun _ => ?_)
              clear hbb
              clear hK K HBW
              have HBW := HB2
              clear HB2
              generalize (W1.alloc (.cells #[.slice none 0 0, .slice none 0 0, .slice none 0 0] 39)) = W2 at *
              refine wpAnyH_ready (rs := [3]) (by kernel_rfl) (by simp) ?_
              refine AllReadyH.cons rfl (fun K hK => ?_) AllReadyH.nil
              go_simp
              refine (GI.out _ _ _ _ (BA7.out.keep HBW.out)).mono ?_
              rintro e W3 ⟨xq, yq, zq, rfl, hNq, hbb⟩
              have HB2 : Hid (Below w7.heap.size w7 W3) := below_step HBW.out hbb
              have HXB2 := toHidC ((hbb.block _ (Array.getElem?_eq_some_iff.1 HXB.out).1).trans HXB.out)
              have HN : Hid (BookNew w7.heap.size W3 xq yq zq rk rp re) := hNq.mono HBW.out.size
              obtain ⟨u1, u2, v1, v2, t1, t2, rfl, rfl, rfl⟩ := hNq.slices
              have hHeld := HSS.out _ HB2.out
              refine hK.out _ _ hHeld (fun _ => ?_)
              clear hbb hNq
              clear hK K HBW HXB
              have HBW := HB2
              clear HB2
              have HXB := HXB2
              clear HXB2
              refine wpAnyH_take (i := 4) (v := ?_) rfl (by kernel_rfl) (by kernel_rfl) (by kernel_rfl) (fun _ _ _ h => h) (Or.inl ⟨by rfl, ?_⟩) (by assumption) ?_
              rotate_left
              · intro w hSw; (try dsimp only at hSw); go_simp; try with_reducible rfl
              simp only [Act.put, List.setIfInBounds_toArray, List.set_cons_zero, List.set_cons_succ, List.getElem_toArray, List.getElem_cons_succ, List.getElem_cons_zero]
              refine wpAnyH_take (i := 5) (v := ?_) rfl (by kernel_rfl) (by kernel_rfl) (by kernel_rfl) (fun _ _ _ h => h) (Or.inl ⟨by rfl, ?_⟩) (by assumption) ?_
              rotate_left
              · intro w hSw; (try dsimp only at hSw); go_simp; try with_reducible rfl
              simp only [Act.put, List.setIfInBounds_toArray, List.set_cons_zero, List.set_cons_succ, List.getElem_toArray, List.getElem_cons_succ, List.getElem_cons_zero]
              refine wpAnyH_take (i := 6) (v := ?_) rfl (by kernel_rfl) (by kernel_rfl) (by kernel_rfl) (fun _ _ _ h => h) (Or.inl ⟨by rfl, ?_⟩) (by assumption) ?_
              rotate_left
              · intro w hSw; (try dsimp only at hSw); go_simp; try with_reducible rfl
              simp only [Act.put, List.setIfInBounds_toArray, List.set_cons_zero, List.set_cons_succ, List.getElem_toArray, List.getElem_cons_succ, List.getElem_cons_zero]
              clear hHeld
              refine wpAnyH_ready (rs := [8]) (by kernel_rfl) (by simp) ?_
              refine AllReadyH.cons rfl (fun K hK => ?_) AllReadyH.nil
              refine step_store_rowC rfl 39 _ _ rfl (W1.heap.size) #[.slice u1 rk.length u2, .slice v1 rp.length v2, .slice t1 re.length t2] rfl rfl 39 _ HXB.out (by kernel_rfl) rfl (by simp [Value.oneCell']) ?_
              have HB2 : Hid (Below w7.heap.size w7 (W3.setRow (W1.heap.size) #[.slice u1 rk.length u2, .slice v1 rp.length v2, .slice t1 re.length t2])) := below_setRow HBW.out HXL.out _
              have HNF : Hid (BookNew w7.heap.size (W3.setRow (W1.heap.size) #[.slice u1 rk.length u2, .slice v1 rp.length v2, .slice t1 re.length t2]) (.slice u1 rk.length u2) (.slice v1 rp.length v2) (.slice t1 re.length t2) rk rp re) := HN.out.box HXB.out (grown_rowF _ _ _)
              have HXF : Hid ((W3.setRow (W1.heap.size) #[.slice u1 rk.length u2, .slice v1 rp.length v2, .slice t1 re.length t2]).heap[W1.heap.size]? = some (.cells #[.slice u1 rk.length u2, .slice v1 rp.length v2, .slice t1 re.length t2] 39 (0, 0))) := setRow_heap _ _ _ _ _ _ HXB.out
              have hHeld := HSS.out _ HB2.out
              refine hK.out _ _ hHeld (fun _ => ?_)
              clear hK K
              refine wpAnyH_take (i := 9) (v := ?_) rfl (by kernel_rfl) (by kernel_rfl) (by kernel_rfl) (fun _ _ _ h => h) (Or.inl ⟨by rfl, ?_⟩) (by assumption) ?_
              rotate_left
              · intro w hSw; (try dsimp only at hSw); go_simp; try with_reducible rfl
              simp only [Act.put, List.setIfInBounds_toArray, List.set_cons_zero, List.set_cons_succ, List.getElem_toArray, List.getElem_cons_succ, List.getElem_cons_zero]
              clear hHeld
              refine wpAnyH_done (by kernel_rfl) ?_ _
              refine NoPanic.normal ?_
              go_wp2_with fail
              go_meet
              exact ⟨W1.heap.size, _, _, _, rfl, rfl, HB2.out, HXF.out, HNF.out, HXL.out⟩
          · go_simp
            have hbb : Below W0.heap.size W0 (W0.alloc (.cells #[.slice none 0 0, .slice none 0 0, .slice none 0 0] 39)) := (Below.refl _ _).alloc (Nat.le_refl _) _
            have HB2 : Hid (Below w7.heap.size w7 (W0.alloc (.cells #[.slice none 0 0, .slice none 0 0, .slice none 0 0] 39))) := below_step HBW.out hbb
            have HXB : Hid ((W0.alloc (.cells #[.slice none 0 0, .slice none 0 0, .slice none 0 0] 39)).heap[W0.heap.size]? = some (.cells #[.slice none 0 0, .slice none 0 0, .slice none 0 0] 39 (0, 0))) := heap_newF W0 _
            have HXL : Hid (w7.heap.size ≤ W0.heap.size) := HBW.out.size
            refine hK.out _ _ (HSS.out _ HB2.out) (fun _ => ?_)
            clear hbb
            clear hK K HBW
            have HBW := HB2
            clear HB2
            generalize (W0.alloc (.cells #[.slice none 0 0, .slice none 0 0, .slice none 0 0] 39)) = W1 at *
            refine wpAnyH_ready (rs := [2]) (by kernel_rfl) (by simp) ?_
            refine AllReadyH.cons rfl (fun K hK => ?_) AllReadyH.nil
            go_simp
            refine (GC.out _).mono ?_
            rintro e W2 ⟨rfl, hbb⟩
            have HB2 : Hid (Below w7.heap.size w7 W2) := below_step HBW.out hbb
            have HXB2 := toHidC ((hbb.block _ (Array.getElem?_eq_some_iff.1 HXB.out).1).trans HXB.out)
            refine hK.out _ _ (HSS.out _ HB2.out) (fun _ => ?_)
            clear hbb
            clear hK K HBW HXB
            have HBW := HB2
            clear HB2
            have HXB := HXB2
            clear HXB2
            refine wpAnyH_ready (rs := [3]) (by kernel_rfl) (by simp) ?_
            refine AllReadyH.cons rfl (fun K hK => ?_) AllReadyH.nil
            go_simp
            refine (GI.out _ _ _ _ (BA7.out.keep HBW.out)).mono ?_
            rintro e W3 ⟨xq, yq, zq, rfl, hNq, hbb⟩
            have HB2 : Hid (Below w7.heap.size w7 W3) := below_step HBW.out hbb
            have HXB2 := toHidC ((hbb.block _ (Array.getElem?_eq_some_iff.1 HXB.out).1).trans HXB.out)
            have HN : Hid (BookNew w7.heap.size W3 xq yq zq rk rp re) := hNq.mono HBW.out.size
            obtain ⟨u1, u2, v1, v2, t1, t2, rfl, rfl, rfl⟩ := hNq.slices
            have hHeld := HSS.out _ HB2.out
            refine hK.out _ _ hHeld (fun _ => ?_)
            clear hbb hNq
            clear hK K HBW HXB
            have HBW := HB2
            clear HB2
            have HXB := HXB2
            clear HXB2
            refine wpAnyH_take (i := 4) (v := ?_) rfl (by kernel_rfl) (by kernel_rfl) (by kernel_rfl) (fun _ _ _ h => h) (Or.inl ⟨by rfl, ?_⟩) (by assumption) ?_
            rotate_left
            · intro w hSw; (try dsimp only at hSw); go_simp; try with_reducible rfl
            simp only [Act.put, List.setIfInBounds_toArray, List.set_cons_zero, List.set_cons_succ, List.getElem_toArray, List.getElem_cons_succ, List.getElem_cons_zero]
            refine wpAnyH_take (i := 5) (v := ?_) rfl (by kernel_rfl) (by kernel_rfl) (by kernel_rfl) (fun _ _ _ h => h) (Or.inl ⟨by rfl, ?_⟩) (by assumption) ?_
            rotate_left
            · intro w hSw; (try dsimp only at hSw); go_simp; try with_reducible rfl
            simp only [Act.put, List.setIfInBounds_toArray, List.set_cons_zero, List.set_cons_succ, List.getElem_toArray, List.getElem_cons_succ, List.getElem_cons_zero]
            refine wpAnyH_take (i := 6) (v := ?_) rfl (by kernel_rfl) (by kernel_rfl) (by kernel_rfl) (fun _ _ _ h => h) (Or.inl ⟨by rfl, ?_⟩) (by assumption) ?_
            rotate_left
            · intro w hSw; (try dsimp only at hSw); go_simp; try with_reducible rfl
            simp only [Act.put, List.setIfInBounds_toArray, List.set_cons_zero, List.set_cons_succ, List.getElem_toArray, List.getElem_cons_succ, List.getElem_cons_zero]
            clear hHeld
            refine wpAnyH_ready (rs := [8]) (by kernel_rfl) (by simp) ?_
            refine AllReadyH.cons rfl (fun K hK => ?_) AllReadyH.nil
            refine step_store_rowC rfl 39 _ _ rfl (W0.heap.size) #[.slice u1 rk.length u2, .slice v1 rp.length v2, .slice t1 re.length t2] rfl rfl 39 _ HXB.out (by kernel_rfl) rfl (by simp [Value.oneCell']) ?_
            have HB2 : Hid (Below w7.heap.size w7 (W3.setRow (W0.heap.size) #[.slice u1 rk.length u2, .slice v1 rp.length v2, .slice t1 re.length t2])) := below_setRow HBW.out HXL.out _
            have HNF : Hid (BookNew w7.heap.size (W3.setRow (W0.heap.size) #[.slice u1 rk.length u2, .slice v1 rp.length v2, .slice t1 re.length t2]) (.slice u1 rk.length u2) (.slice v1 rp.length v2) (.slice t1 re.length t2) rk rp re) := HN.out.box HXB.out (grown_rowF _ _ _)
            have HXF : Hid ((W3.setRow (W0.heap.size) #[.slice u1 rk.length u2, .slice v1 rp.length v2, .slice t1 re.length t2]).heap[W0.heap.size]? = some (.cells #[.slice u1 rk.length u2, .slice v1 rp.length v2, .slice t1 re.length t2] 39 (0, 0))) := setRow_heap _ _ _ _ _ _ HXB.out
            have hHeld := HSS.out _ HB2.out
            refine hK.out _ _ hHeld (fun _ => ?_)
            clear hK K
            refine wpAnyH_take (i := 9) (v := ?_) rfl (by kernel_rfl) (by kernel_rfl) (by kernel_rfl) (fun _ _ _ h => h) (Or.inl ⟨by rfl, ?_⟩) (by assumption) ?_
            rotate_left
            · intro w hSw; (try dsimp only at hSw); go_simp; try with_reducible rfl
            simp only [Act.put, List.setIfInBounds_toArray, List.set_cons_zero, List.set_cons_succ, List.getElem_toArray, List.getElem_cons_succ, List.getElem_cons_zero]
            clear hHeld
            refine wpAnyH_done (by kernel_rfl) ?_ _
            refine NoPanic.normal ?_
            go_wp2_with fail
            go_meet
            exact ⟨W0.heap.size, _, _, _, rfl, rfl, HB2.out, HXF.out, HNF.out, HXL.out⟩
        case rest =>
          obtain ⟨Y, xv, yv, zv, rfl, rfl, hq⟩ := hcut
          obtain ⟨u1, u2, v1, v2, t1, t2, rfl, rfl, rfl⟩ := hq.out.2.2.1.slices
          have L9 : Hid (Bxs w wc [(Y, #[.slice u1 rk.length u2, .slice v1 rp.length v2, .slice t1 re.length t2], 39), (w6.heap.size, #[.slice k6 ks.length k6', .slice p6 ps.length p6', .slice e6 es.length e6'], 39), (X, #[.slice x1 rk.length x2, .slice y1 rp.length y2, .slice z1 re.length z2], 39), (w.heap.size, #[.slice ak ks.length ck, .slice ap ps.length cp, .slice ae es.length ce], 28), (w.heap.size + 1, #[.string c.f, .int .i64 c.what, .int .i64 c.num, .string c.v], 30)]) := (L7.out.call hq.out.1).push hq.out.2.1
          have V9 : Hid (BookNew w7.heap.size wc (.slice u1 rk.length u2) (.slice v1 rp.length v2) (.slice t1 re.length t2) rk rp re) := hq.out.2.2.1
          have Q9 : Hid (Below w7.heap.size w7 wc) := hq.out.1
          have hYq : w7.heap.size ≤ Y := hq.out.2.2.2
          clear hq L7
          generalize wc = w9 at *
          -- what the program answered is what the specification did
          have T9 : Hid (Below w3.heap.size w3 w9) := below_step T7.out Q9.out
          obtain ⟨g0, g1, g2⟩ : w9.cell? ⟨Y, 0, none⟩ = some (.slice u1 rk.length u2) ∧ w9.cell? ⟨Y, 1, none⟩ = some (.slice v1 rp.length v2) ∧ w9.cell? ⟨Y, 2, none⟩ = some (.slice t1 re.length t2) := ⟨L9.out.cell 0 rfl 0, L9.out.cell 0 rfl 1, L9.out.cell 0 rfl 2⟩
          obtain ⟨f0, f1, f2⟩ : w9.cell? ⟨X, 0, none⟩ = some (.slice x1 rk.length x2) ∧ w9.cell? ⟨X, 1, none⟩ = some (.slice y1 rp.length y2) ∧ w9.cell? ⟨X, 2, none⟩ = some (.slice z1 re.length z2) := ⟨L9.out.cell 2 rfl 0, L9.out.cell 2 rfl 1, L9.out.cell 2 rfl 2⟩
          go_wp2_with fail
          refine (eqBook_any _ _ _ _ _ _ rk rp re _ V9.out.at (VB.out _ T9.out).at).mono ?_
          rintro e w11 ⟨rfl, hb11⟩
          have Q11 : Hid (Below w7.heap.size w7 w11) := below_step Q9.out hb11
          have L11 : Hid (Bxs w w11 [(Y, #[.slice u1 rk.length u2, .slice v1 rp.length v2, .slice t1 re.length t2], 39), (w6.heap.size, #[.slice k6 ks.length k6', .slice p6 ps.length p6', .slice e6 es.length e6'], 39), (X, #[.slice x1 rk.length x2, .slice y1 rp.length y2, .slice z1 re.length z2], 39), (w.heap.size, #[.slice ak ks.length ck, .slice ap ps.length cp, .slice ae es.length ce], 28), (w.heap.size + 1, #[.string c.f, .int .i64 c.what, .int .i64 c.num, .string c.v], 30)]) := L9.out.call hb11
          have V11 : Hid (BookNew w7.heap.size w11 (.slice u1 rk.length u2) (.slice v1 rp.length v2) (.slice t1 re.length t2) rk rp re) := V9.out.keep hb11
          clear hb11 g0 g1 g2 f0 f1 f2 L9 V9 Q9 T9
          go_wp2
          -- the book is as it was
          refine wp_region_noPanic ?_
          refine wp_region_held_drew (S := fun w' => (w'.cell? ⟨w6.heap.size, 0, none⟩ = some (.slice k6 ks.length k6') ∧ w'.cell? ⟨w6.heap.size, 1, none⟩ = some (.slice p6 ps.length p6') ∧ w'.cell? ⟨w6.heap.size, 2, none⟩ = some (.slice e6 es.length e6')) ∧ (w'.cell? ⟨w.heap.size, 0, none⟩ = some (.slice ak ks.length ck) ∧ w'.cell? ⟨w.heap.size, 1, none⟩ = some (.slice ap ps.length cp) ∧ w'.cell? ⟨w.heap.size, 2, none⟩ = some (.slice ae es.length ce))) (by kernel_rfl) ?_ (fun hHeld => ?_)
          · exact ⟨⟨L11.out.drew.cell 1 rfl 0, L11.out.drew.cell 1 rfl 1, L11.out.drew.cell 1 rfl 2⟩, ⟨L11.out.drew.cell 3 rfl 0, L11.out.drew.cell 3 rfl 1, L11.out.drew.cell 3 rfl 2⟩⟩
          refine wpAnyH_take (i := 0) (v := ?_) rfl (by kernel_rfl) (by kernel_rfl) (by kernel_rfl) (fun _ _ _ h => h) (Or.inl ⟨by rfl, ?_⟩) (by assumption) ?_
          rotate_left
          · intro w hSw; (try dsimp only at hSw); go_simp; try with_reducible rfl
          simp only [Act.put, List.setIfInBounds_toArray, List.set_cons_zero, List.set_cons_succ, List.getElem_toArray, List.getElem_cons_succ, List.getElem_cons_zero]
          refine wpAnyH_take (i := 1) (v := ?_) rfl (by kernel_rfl) (by kernel_rfl) (by kernel_rfl) (fun _ _ _ h => h) (Or.inl ⟨by rfl, ?_⟩) (by assumption) ?_
          rotate_left
          · intro w hSw; (try dsimp only at hSw); go_simp; try with_reducible rfl
          simp only [Act.put, List.setIfInBounds_toArray, List.set_cons_zero, List.set_cons_succ, List.getElem_toArray, List.getElem_cons_succ, List.getElem_cons_zero]
          clear hHeld
          refine wpAnyH_ready (rs := [2]) (by kernel_rfl) (by simp) ?_
          refine AllReadyH.cons rfl (fun K hK => ?_) AllReadyH.nil
          go_simp
          refine (GA.out _ L11.out.drew.below).mono ?_
          rintro e w12 ⟨kz, pz, ez, rfl, hBz, hb12⟩
          have L12 : Hid (Bxs w w12 [(Y, #[.slice u1 rk.length u2, .slice v1 rp.length v2, .slice t1 re.length t2], 39), (w6.heap.size, #[.slice k6 ks.length k6', .slice p6 ps.length p6', .slice e6 es.length e6'], 39), (X, #[.slice x1 rk.length x2, .slice y1 rp.length y2, .slice z1 re.length z2], 39), (w.heap.size, #[.slice ak ks.length ck, .slice ap ps.length cp, .slice ae es.length ce], 28), (w.heap.size + 1, #[.string c.f, .int .i64 c.what, .int .i64 c.num, .string c.v], 30)]) := L11.out.drew.call hb12
          have Q12 : Hid (Below w7.heap.size w7 w12) := below_step Q11.out.drew hb12
          have V12 : Hid (BookNew w7.heap.size w12 (.slice u1 rk.length u2) (.slice v1 rp.length v2) (.slice t1 re.length t2) rk rp re) := (V11.out.keep (Below.refl _ _).drew).keep hb12
          have BZ : Hid (BookAt w12 kz pz ez ks ps es) := hBz.at SS.out
          refine hK.out _ _ ⟨⟨L12.out.cell 1 rfl 0, L12.out.cell 1 rfl 1, L12.out.cell 1 rfl 2⟩, ⟨L12.out.cell 3 rfl 0, L12.out.cell 3 rfl 1, L12.out.cell 3 rfl 2⟩⟩ (fun _ => ?_)
          clear hK K L11 Q11 V11 hb12 hBz
          refine wpAnyH_ready (rs := [3]) (by kernel_rfl) (by simp) ?_
          refine AllReadyH.cons rfl (fun K hK => ?_) AllReadyH.nil
          go_simp
          refine (eqBook_any _ _ _ _ _ _ ks ps es _ (BA7.out.keep Q12.out) BZ.out).mono ?_
          rintro e w13 ⟨rfl, hb13⟩
          have L13 : Hid (Bxs w w13 [(Y, #[.slice u1 rk.length u2, .slice v1 rp.length v2, .slice t1 re.length t2], 39), (w6.heap.size, #[.slice k6 ks.length k6', .slice p6 ps.length p6', .slice e6 es.length e6'], 39), (X, #[.slice x1 rk.length x2, .slice y1 rp.length y2, .slice z1 re.length z2], 39), (w.heap.size, #[.slice ak ks.length ck, .slice ap ps.length cp, .slice ae es.length ce], 28), (w.heap.size + 1, #[.string c.f, .int .i64 c.what, .int .i64 c.num, .string c.v], 30)]) := L12.out.call hb13
          have Q13 : Hid (Below w7.heap.size w7 w13) := below_step Q12.out hb13
          have V13 : Hid (BookNew w7.heap.size w13 (.slice u1 rk.length u2) (.slice v1 rp.length v2) (.slice t1 re.length t2) rk rp re) := V12.out.keep hb13
          have hHeld : (w13.cell? ⟨w6.heap.size, 0, none⟩ = some (.slice k6 ks.length k6') ∧ w13.cell? ⟨w6.heap.size, 1, none⟩ = some (.slice p6 ps.length p6') ∧ w13.cell? ⟨w6.heap.size, 2, none⟩ = some (.slice e6 es.length e6')) ∧ (w13.cell? ⟨w.heap.size, 0, none⟩ = some (.slice ak ks.length ck) ∧ w13.cell? ⟨w.heap.size, 1, none⟩ = some (.slice ap ps.length cp) ∧ w13.cell? ⟨w.heap.size, 2, none⟩ = some (.slice ae es.length ce)) := ⟨⟨L13.out.cell 1 rfl 0, L13.out.cell 1 rfl 1, L13.out.cell 1 rfl 2⟩, ⟨L13.out.cell 3 rfl 0, L13.out.cell 3 rfl 1, L13.out.cell 3 rfl 2⟩⟩
          refine hK.out _ _ hHeld (fun _ => ?_)
          clear hK K L12 Q12 V12 hb13 BZ
          refine wpAnyH_take (i := 4) (v := ?_) rfl (by kernel_rfl) (by kernel_rfl) (by kernel_rfl) (fun _ _ _ h => h) (Or.inl ⟨by rfl, ?_⟩) (by assumption) ?_
          rotate_left
          · intro w hSw; (try dsimp only at hSw); go_simp; try with_reducible rfl
          simp only [Act.put, List.setIfInBounds_toArray, List.set_cons_zero, List.set_cons_succ, List.getElem_toArray, List.getElem_cons_succ, List.getElem_cons_zero]
          clear hHeld
          refine wpAnyH_done (by kernel_rfl) ?_ _
          refine NoPanic.normal ?_
          -- marks over the copy
          obtain ⟨x0, x1', x2'⟩ : w13.cell? ⟨w6.heap.size, 0, none⟩ = some (.slice k6 ks.length k6') ∧ w13.cell? ⟨w6.heap.size, 1, none⟩ = some (.slice p6 ps.length p6') ∧ w13.cell? ⟨w6.heap.size, 2, none⟩ = some (.slice e6 es.length e6') := ⟨L13.out.cell 1 rfl 0, L13.out.cell 1 rfl 1, L13.out.cell 1 rfl 2⟩
          have T13 : Hid (Below w6.heap.size w6 w13) := below_step B7.out Q13.out
          go_wp2_with fail
          refine (markBook_any _ _ _ ks ps es 1 (w3.heap.size + 3) w6 _ OW6.out (fun k _ hk => T13.out.block k hk) T13.out.size SS.out hsA (by omega)).mono ?_
          rintro e w16 ⟨⟨k16, hk16, hk16', rfl⟩, hO16⟩
          have hw67 : w6.heap.size + 1 = w7.heap.size := HS7.out.symm
          have L16 : Hid (Bxs w w16 [(Y, #[.slice u1 rk.length u2, .slice v1 rp.length v2, .slice t1 re.length t2], 39), (w6.heap.size, #[.slice k6 ks.length k6', .slice p6 ps.length p6', .slice e6 es.length e6'], 39), (X, #[.slice x1 rk.length x2, .slice y1 rp.length y2, .slice z1 re.length z2], 39), (w.heap.size, #[.slice ak ks.length ck, .slice ap ps.length cp, .slice ae es.length ce], 28), (w.heap.size + 1, #[.string c.f, .int .i64 c.what, .int .i64 c.num, .string c.v], 30)]) := by
            refine L13.out.same (L13.out.below.trans (hO16.below.mono (by omega))) (fun p hp => ?_)
            have hlt := L13.out.lt hp
            simp only [List.mem_cons, List.not_mem_nil, or_false] at hp
            rcases hp with rfl | rfl | rfl | rfl | rfl
            · exact hO16.up _ (by omega) hlt
            · exact hO16.up _ (Nat.le_refl _) hlt
            · exact hO16.below.block _ (by show X < _; omega)
            · exact hO16.below.block _ (by show w.heap.size < _; omega)
            · exact hO16.below.block _ (by show w.heap.size + 1 < _; omega)
          have V16 : Hid (BookNew w7.heap.size w16 (.slice u1 rk.length u2) (.slice v1 rp.length v2) (.slice t1 re.length t2) rk rp re) := V13.out.lt (fun k h1 h2 => hO16.up k (by omega) h2)
          have U16 : Hid (Below w3.heap.size w3 w16) := by
            have h1 : Below w3.heap.size w3 w13 := below_step T3.out T13.out
            exact h1.trans (hO16.below.mono (by omega))
          clear hO16 x0 x1' x2' L13 Q13 V13 T13 hw67
          have hk16n : ¬ ((k16 : Nat) : Int) < 0 := by omega
          obtain ⟨g0, g1, g2⟩ : w16.cell? ⟨Y, 0, none⟩ = some (.slice u1 rk.length u2) ∧ w16.cell? ⟨Y, 1, none⟩ = some (.slice v1 rp.length v2) ∧ w16.cell? ⟨Y, 2, none⟩ = some (.slice t1 re.length t2) := ⟨L16.out.cell 0 rfl 0, L16.out.cell 0 rfl 1, L16.out.cell 0 rfl 2⟩
          obtain ⟨f0, f1, f2⟩ : w16.cell? ⟨X, 0, none⟩ = some (.slice x1 rk.length x2) ∧ w16.cell? ⟨X, 1, none⟩ = some (.slice y1 rp.length y2) ∧ w16.cell? ⟨X, 2, none⟩ = some (.slice z1 re.length z2) := ⟨L16.out.cell 2 rfl 0, L16.out.cell 2 rfl 1, L16.out.cell 2 rfl 2⟩
          go_wp2_with fail
          refine (eqBook_any _ _ _ _ _ _ rk rp re _ V16.out.at (VB.out _ U16.out).at).mono ?_
          rintro e w18 ⟨rfl, hb18⟩
          have L18 : Hid (Bxs w w18 [(Y, #[.slice u1 rk.length u2, .slice v1 rp.length v2, .slice t1 re.length t2], 39), (w6.heap.size, #[.slice k6 ks.length k6', .slice p6 ps.length p6', .slice e6 es.length e6'], 39), (X, #[.slice x1 rk.length x2, .slice y1 rp.length y2, .slice z1 re.length z2], 39), (w.heap.size, #[.slice ak ks.length ck, .slice ap ps.length cp, .slice ae es.length ce], 28), (w.heap.size + 1, #[.string c.f, .int .i64 c.what, .int .i64 c.num, .string c.v], 30)]) := L16.out.call hb18
          have V18 : Hid (BookNew w7.heap.size w18 (.slice u1 rk.length u2) (.slice v1 rp.length v2) (.slice t1 re.length t2) rk rp re) := V16.out.keep hb18
          have U18 : Hid (Below w3.heap.size w3 w18) := below_step U16.out hb18
          clear hb18 g0 g1 g2 f0 f1 f2 L16 V16 U16
          -- marks over the answer
          obtain ⟨g0, g1, g2⟩ : w18.cell? ⟨Y, 0, none⟩ = some (.slice u1 rk.length u2) ∧ w18.cell? ⟨Y, 1, none⟩ = some (.slice v1 rp.length v2) ∧ w18.cell? ⟨Y, 2, none⟩ = some (.slice t1 re.length t2) := ⟨L18.out.cell 0 rfl 0, L18.out.cell 0 rfl 1, L18.out.cell 0 rfl 2⟩
          have hw318 : w7.heap.size ≤ w18.heap.size := by have := L18.out.lt (p := (Y, #[.slice u1 rk.length u2, .slice v1 rp.length v2, .slice t1 re.length t2], 39)) (by simp); omega
          have hw37 : w3.heap.size ≤ w7.heap.size := T7.out.size
          go_wp2_with fail
          refine (markBookG_any _ _ _ rk rp re w7.heap.size _ V18.out hw318 hRk hRp (by omega) hRs).mono ?_
          rintro e w19 ⟨M, rfl, hM20, hM19, hb19, hbx⟩
          have L19 : Hid (Bxs w w19 [(Y, #[.slice u1 rk.length u2, .slice v1 rp.length v2, .slice t1 re.length t2], 39), (w6.heap.size, #[.slice k6 ks.length k6', .slice p6 ps.length p6', .slice e6 es.length e6'], 39), (X, #[.slice x1 rk.length x2, .slice y1 rp.length y2, .slice z1 re.length z2], 39), (w.heap.size, #[.slice ak ks.length ck, .slice ap ps.length cp, .slice ae es.length ce], 28), (w.heap.size + 1, #[.string c.f, .int .i64 c.what, .int .i64 c.num, .string c.v], 30)]) := by
            refine L18.out.same (L18.out.below.trans (hb19.mono (by omega))) (fun p hp => ?_)
            have hh := L18.out.has p hp
            simp only [List.mem_cons, List.not_mem_nil, or_false] at hp
            rcases hp with rfl | rfl | rfl | rfl | rfl
            · exact (hbx _ _ hh).trans hh.symm
            · exact (hbx _ _ hh).trans hh.symm
            · exact (hbx _ _ hh).trans hh.symm
            · exact hb19.block _ (by show w.heap.size < _; omega)
            · exact hb19.block _ (by show w.heap.size + 1 < _; omega)
          have M19 : Hid (BookM w19 (.slice u1 rk.length u2) (.slice v1 rp.length v2) (.slice t1 re.length t2) M) := hM19
          have U19 : Hid (Below w3.heap.size w3 w19) := U18.out.trans (hb19.mono (by omega))
          clear hM19 hb19 hbx L18 V18 U18 g0 g1 g2
          have hmn : ¬ ((M : Nat) : Int) < 0 := by omega
          have hme : (((M : Nat) : Int) != ((M : Nat) : Int)) = false := by simp
          obtain ⟨g0, g1, g2⟩ : w19.cell? ⟨Y, 0, none⟩ = some (.slice u1 rk.length u2) ∧ w19.cell? ⟨Y, 1, none⟩ = some (.slice v1 rp.length v2) ∧ w19.cell? ⟨Y, 2, none⟩ = some (.slice t1 re.length t2) := ⟨L19.out.cell 0 rfl 0, L19.out.cell 0 rfl 1, L19.out.cell 0 rfl 2⟩
          go_wp2_with fail
          refine (heldBookG_any _ _ _ M _ M19.out).mono ?_
          rintro e w20 ⟨rfl, hb20⟩
          have L20 : Hid (Bxs w w20 [(Y, #[.slice u1 rk.length u2, .slice v1 rp.length v2, .slice t1 re.length t2], 39), (w6.heap.size, #[.slice k6 ks.length k6', .slice p6 ps.length p6', .slice e6 es.length e6'], 39), (X, #[.slice x1 rk.length x2, .slice y1 rp.length y2, .slice z1 re.length z2], 39), (w.heap.size, #[.slice ak ks.length ck, .slice ap ps.length cp, .slice ae es.length ce], 28), (w.heap.size + 1, #[.string c.f, .int .i64 c.what, .int .i64 c.num, .string c.v], 30)]) := L19.out.call hb20
          have M20 : Hid (BookM w20 (.slice u1 rk.length u2) (.slice v1 rp.length v2) (.slice t1 re.length t2) M) := M19.out.keep hb20
          have U20 : Hid (Below w3.heap.size w3 w20) := below_step U19.out hb20
          clear hb20 L19 M19 U19 g0 g1 g2
          go_wp2
          go_cut [14, 15] (fun s14 s15 wc => ∃ (Xq : Nat) (xv yv zv : Value), s14 = .pointer (some ⟨Xq, 0, none⟩) ∧ s15 = .int .i64 TC ∧ Hid (Below w20.heap.size w20 wc ∧ wc.heap[Xq]? = some (.cells #[xv, yv, zv] 39 (0, 0)) ∧ BookNew w20.heap.size wc xv yv zv rk rp re ∧ w20.heap.size ≤ Xq))
          case first =>
            have HSS : Hid (∀ w' : World, Below w20.heap.size w20 w' → ((w'.cell? ⟨w.heap.size, 0, none⟩ = some (.slice ak ks.length ck) ∧ w'.cell? ⟨w.heap.size, 1, none⟩ = some (.slice ap ps.length cp) ∧ w'.cell? ⟨w.heap.size, 2, none⟩ = some (.slice ae es.length ce)) ∧ (w'.cell? ⟨w.heap.size + 1, 0, none⟩ = some (.string c.f) ∧ w'.cell? ⟨w.heap.size + 1, 1, none⟩ = some (.int .i64 c.what) ∧ w'.cell? ⟨w.heap.size + 1, 2, none⟩ = some (.int .i64 c.num) ∧ w'.cell? ⟨w.heap.size + 1, 3, none⟩ = some (.string c.v)))) := fun w' hx => by
              have hl := L20.out.call hx
              exact ⟨⟨hl.cell 3 rfl 0, hl.cell 3 rfl 1, hl.cell 3 rfl 2⟩, ⟨hl.cell 4 rfl 0, hl.cell 4 rfl 1, hl.cell 4 rfl 2, hl.cell 4 rfl 3⟩⟩
            refine wp_region_noPanic ?_
            refine wp_region_held_drew (S := fun w' => (w'.cell? ⟨w.heap.size, 0, none⟩ = some (.slice ak ks.length ck) ∧ w'.cell? ⟨w.heap.size, 1, none⟩ = some (.slice ap ps.length cp) ∧ w'.cell? ⟨w.heap.size, 2, none⟩ = some (.slice ae es.length ce)) ∧ (w'.cell? ⟨w.heap.size + 1, 0, none⟩ = some (.string c.f) ∧ w'.cell? ⟨w.heap.size + 1, 1, none⟩ = some (.int .i64 c.what) ∧ w'.cell? ⟨w.heap.size + 1, 2, none⟩ = some (.int .i64 c.num) ∧ w'.cell? ⟨w.heap.size + 1, 3, none⟩ = some (.string c.v))) (by kernel_rfl) ?_ (fun hHeld => ?_)
            · exact HSS.out _ (Below.refl _ _).drew
            have HBW : Hid (Below w20.heap.size w20 w20.drew) := (Below.refl _ _).drew
            generalize w20.drew = W0 at *
            refine wpAnyH_take (i := 0) (v := ?_) rfl (by kernel_rfl) (by kernel_rfl) (by kernel_rfl) (fun _ _ _ h => h) (Or.inl ⟨by rfl, ?_⟩) (by assumption) ?_
            rotate_left
            · intro w hSw; (try dsimp only at hSw); go_simp; try with_reducible rfl
            simp only [Act.put, List.setIfInBounds_toArray, List.set_cons_zero, List.set_cons_succ, List.getElem_toArray, List.getElem_cons_succ, List.getElem_cons_zero]
            refine wpAnyH_take (i := 2) (v := ?_) rfl (by kernel_rfl) (by kernel_rfl) (by kernel_rfl) (fun _ _ _ h => h) (Or.inl ⟨by rfl, ?_⟩) (by assumption) ?_
            rotate_left
            · intro w hSw; (try dsimp only at hSw); go_simp; try with_reducible rfl
            simp only [Act.put, List.setIfInBounds_toArray, List.set_cons_zero, List.set_cons_succ, List.getElem_toArray, List.getElem_cons_succ, List.getElem_cons_zero]
            clear hHeld
            refine wpAnyH_ready (rs := [1, 8]) (by kernel_rfl) (by simp) ?_
            refine AllReadyH.cons rfl (fun K hK => ?_) (AllReadyH.cons rfl (fun K hK => ?_) AllReadyH.nil)
            · go_simp
              refine (GA.out _ (below_step L20.out.below HBW.out)).mono ?_
              rintro e W1 ⟨kb, pb, eb, rfl, hBb, hbb⟩
              have HB2 : Hid (Below w20.heap.size w20 W1) := below_step HBW.out hbb
              have HBK : Hid (BookAt W1 kb pb eb ks ps es) := hBb.at SS.out
              refine hK.out _ _ (HSS.out _ HB2.out) (fun _ => ?_)
              clear hBb hbb
              clear hK K HBW
              have HBW := HB2
              clear HB2
              refine wpAnyH_ready (rs := [3, 8]) (by kernel_rfl) (by simp) ?_
              refine AllReadyH.cons rfl (fun K hK => ?_) (AllReadyH.cons rfl (fun K hK => ?_) AllReadyH.nil)
              · go_simp
                refine (GC.out _).mono ?_
                rintro e W2 ⟨rfl, hbb⟩
                have HB2 : Hid (Below w20.heap.size w20 W2) := below_step HBW.out hbb
                have HBK2 := toHidC (HBK.out.keep hbb)
                refine hK.out _ _ (HSS.out _ HB2.out) (fun _ => ?_)
                clear hbb
                clear hK K HBW HBK
                have HBW := HB2
                clear HB2
                have HBK := HBK2
                clear HBK2
                refine wpAnyH_ready (rs := [4, 8]) (by kernel_rfl) (by simp) ?_
                refine AllReadyH.cons rfl (fun K hK => ?_) (AllReadyH.cons rfl (fun K hK => ?_) AllReadyH.nil)
                · go_simp
                  refine (GI.out _ _ _ _ HBK.out).mono ?_
                  rintro e W3 ⟨xq, yq, zq, rfl, hNq, hbb⟩
                  have HB2 : Hid (Below w20.heap.size w20 W3) := below_step HBW.out hbb
                  have HN : Hid (BookNew w20.heap.size W3 xq yq zq rk rp re) := hNq.mono HBW.out.size
                  obtain ⟨m1, m2, n1, n2, o1, o2, rfl, rfl, rfl⟩ := hNq.slices
                  have hHeld := HSS.out _ HB2.out
                  refine hK.out _ _ hHeld (fun _ => ?_)
                  clear hbb hNq HBK
                  clear hK K HBW
                  have HBW := HB2
                  clear HB2
                  refine wpAnyH_take (i := 5) (v := ?_) rfl (by kernel_rfl) (by kernel_rfl) (by kernel_rfl) (fun _ _ _ h => h) (Or.inl ⟨by rfl, ?_⟩) (by assumption) ?_
                  rotate_left
                  · intro w hSw; (try dsimp only at hSw); go_simp; try with_reducible rfl
                  simp only [Act.put, List.setIfInBounds_toArray, List.set_cons_zero, List.set_cons_succ, List.getElem_toArray, List.getElem_cons_succ, List.getElem_cons_zero]
                  refine wpAnyH_take (i := 6) (v := ?_) rfl (by kernel_rfl) (by kernel_rfl) (by kernel_rfl) (fun _ _ _ h => h) (Or.inl ⟨by rfl, ?_⟩) (by assumption) ?_
                  rotate_left
                  · intro w hSw; (try dsimp only at hSw); go_simp; try with_reducible rfl
                  simp only [Act.put, List.setIfInBounds_toArray, List.set_cons_zero, List.set_cons_succ, List.getElem_toArray, List.getElem_cons_succ, List.getElem_cons_zero]
                  refine wpAnyH_take (i := 7) (v := ?_) rfl (by kernel_rfl) (by kernel_rfl) (by kernel_rfl) (fun _ _ _ h => h) (Or.inl ⟨by rfl, ?_⟩) (by assumption) ?_
                  rotate_left
                  · intro w hSw; (try dsimp only at hSw); go_simp; try with_reducible rfl
                  simp only [Act.put, List.setIfInBounds_toArray, List.set_cons_zero, List.set_cons_succ, List.getElem_toArray, List.getElem_cons_succ, List.getElem_cons_zero]
                  clear hHeld
                  refine wpAnyH_ready (rs := [8]) (by kernel_rfl) (by simp) ?_
                  refine AllReadyH.cons rfl (fun K hK => ?_) AllReadyH.nil
                  go_simp
                  have hbb : Below W3.heap.size W3 (W3.alloc (.cells #[.slice none 0 0, .slice none 0 0, .slice none 0 0] 39)) := (Below.refl _ _).alloc (Nat.le_refl _) _
                  have HB2 : Hid (Below w20.heap.size w20 (W3.alloc (.cells #[.slice none 0 0, .slice none 0 0, .slice none 0 0] 39))) := below_step HBW.out hbb
                  have HN2 := toHidC (HN.out.keep hbb)
                  have HXB : Hid ((W3.alloc (.cells #[.slice none 0 0, .slice none 0 0, .slice none 0 0] 39)).heap[W3.heap.size]? = some (.cells #[.slice none 0 0, .slice none 0 0, .slice none 0 0] 39 (0, 0))) := heap_newF W3 _
                  have HXL : Hid (w20.heap.size ≤ W3.heap.size) := HBW.out.size
                  refine hK.out _ _ (HSS.out _ HB2.out) (fun _ => ?_)
                  clear hbb
                  clear hK K HBW HN
                  have HBW := HB2
                  clear HB2
                  have HN := HN2
                  clear HN2
                  generalize (W3.alloc (.cells #[.slice none 0 0, .slice none 0 0, .slice none 0 0] 39)) = W4 at *
                  refine wpAnyH_ready (rs := [9]) (by kernel_rfl) (by simp) ?_
                  refine AllReadyH.cons rfl (fun K hK => ?_) AllReadyH.nil
                  refine step_store_rowC rfl 39 _ _ rfl (W3.heap.size) #[.slice m1 rk.length m2, .slice n1 rp.length n2, .slice o1 re.length o2] rfl rfl 39 _ HXB.out (by kernel_rfl) rfl (by simp [Value.oneCell']) ?_
                  have HB2 : Hid (Below w20.heap.size w20 (W4.setRow (W3.heap.size) #[.slice m1 rk.length m2, .slice n1 rp.length n2, .slice o1 re.length o2])) := below_setRow HBW.out HXL.out _
                  have HNF : Hid (BookNew w20.heap.size (W4.setRow (W3.heap.size) #[.slice m1 rk.length m2, .slice n1 rp.length n2, .slice o1 re.length o2]) (.slice m1 rk.length m2) (.slice n1 rp.length n2) (.slice o1 re.length o2) rk rp re) := HN.out.box HXB.out (grown_rowF _ _ _)
                  have HXF : Hid ((W4.setRow (W3.heap.size) #[.slice m1 rk.length m2, .slice n1 rp.length n2, .slice o1 re.length o2]).heap[W3.heap.size]? = some (.cells #[.slice m1 rk.length m2, .slice n1 rp.length n2, .slice o1 re.length o2] 39 (0, 0))) := setRow_heap _ _ _ _ _ _ HXB.out
                  have hHeld := HSS.out _ HB2.out
                  refine hK.out _ _ hHeld (fun _ => ?_)
                  clear hK K
                  refine wpAnyH_take (i := 10) (v := ?_) rfl (by kernel_rfl) (by kernel_rfl) (by kernel_rfl) (fun _ _ _ h => h) (Or.inl ⟨by rfl, ?_⟩) (by assumption) ?_
                  rotate_left
                  · intro w hSw; (try dsimp only at hSw); go_simp; try with_reducible rfl
                  simp only [Act.put, List.setIfInBounds_toArray, List.set_cons_zero, List.set_cons_succ, List.getElem_toArray, List.getElem_cons_succ, List.getElem_cons_zero]
                  clear hHeld
                  refine wpAnyH_done (by kernel_rfl) ?_ _
                  refine NoPanic.normal ?_
                  go_wp2_with fail
                  go_meet
                  exact ⟨W3.heap.size, _, _, _, rfl, rfl, HB2.out, HXF.out, HNF.out, HXL.out⟩
                · go_simp
                  have hbb : Below W2.heap.size W2 (W2.alloc (.cells #[.slice none 0 0, .slice none 0 0, .slice none 0 0] 39)) := (Below.refl _ _).alloc (Nat.le_refl _) _
                  have HB2 : Hid (Below w20.heap.size w20 (W2.alloc (.cells #[.slice none 0 0, .slice none 0 0, .slice none 0 0] 39))) := below_step HBW.out hbb
                  have HBK2 := toHidC (HBK.out.keep hbb)
                  have HXB : Hid ((W2.alloc (.cells #[.slice none 0 0, .slice none 0 0, .slice none 0 0] 39)).heap[W2.heap.size]? = some (.cells #[.slice none 0 0, .slice none 0 0, .slice none 0 0] 39 (0, 0))) := heap_newF W2 _
                  have HXL : Hid (w20.heap.size ≤ W2.heap.size) := HBW.out.size
                  refine hK.out _ _ (HSS.out _ HB2.out) (fun _ => ?_)
                  clear hbb
                  clear hK K HBW HBK
                  have HBW := HB2
                  clear HB2
                  have HBK := HBK2
                  clear HBK2
                  generalize (W2.alloc (.cells #[.slice none 0 0, .slice none 0 0, .slice none 0 0] 39)) = W3 at *
                  refine wpAnyH_ready (rs := [4]) (by kernel_rfl) (by simp) ?_
                  refine AllReadyH.cons rfl (fun K hK => ?_) AllReadyH.nil
                  go_simp
                  refine (GI.out _ _ _ _ HBK.out).mono ?_
                  rintro e W4 ⟨xq, yq, zq, rfl, hNq, hbb⟩
                  have HB2 : Hid (Below w20.heap.size w20 W4) := below_step HBW.out hbb
                  have HXB2 := toHidC ((hbb.block _ (Array.getElem?_eq_some_iff.1 HXB.out).1).trans HXB.out)
                  have HN : Hid (BookNew w20.heap.size W4 xq yq zq rk rp re) := hNq.mono HBW.out.size
                  obtain ⟨m1, m2, n1, n2, o1, o2, rfl, rfl, rfl⟩ := hNq.slices
                  have hHeld := HSS.out _ HB2.out
                  refine hK.out _ _ hHeld (fun _ => ?_)
                  clear hbb hNq HBK
                  clear hK K HBW HXB
                  have HBW := HB2
                  clear HB2
                  have HXB := HXB2
                  clear HXB2
                  refine wpAnyH_take (i := 5) (v := ?_) rfl (by kernel_rfl) (by kernel_rfl) (by kernel_rfl) (fun _ _ _ h => h) (Or.inl ⟨by rfl, ?_⟩) (by assumption) ?_
                  rotate_left
                  · intro w hSw; (try dsimp only at hSw); go_simp; try with_reducible rfl
                  simp only [Act.put, List.setIfInBounds_toArray, List.set_cons_zero, List.set_cons_succ, List.getElem_toArray, List.getElem_cons_succ, List.getElem_cons_zero]
                  refine wpAnyH_take (i := 6) (v := ?_) rfl (by kernel_rfl) (by kernel_rfl) (by kernel_rfl) (fun _ _ _ h => h) (Or.inl ⟨by rfl, ?_⟩) (by assumption) ?_
                  rotate_left
                  · intro w hSw; (try dsimp only at hSw); go_simp; try with_reducible rfl
                  simp only [Act.put, List.setIfInBounds_toArray, List.set_cons_zero, List.set_cons_succ, List.getElem_toArray, List.getElem_cons_succ, List.getElem_cons_zero]
                  refine wpAnyH_take (i := 7) (v := ?_) rfl (by kernel_rfl) (by kernel_rfl) (by kernel_rfl) (fun _ _ _ h => h) (Or.inl ⟨by rfl, ?_⟩) (by assumption) ?_
                  rotate_left
                  · intro w hSw; (try dsimp only at hSw); go_simp; try with_reducible rfl
                  simp only [Act.put, List.setIfInBounds_toArray, List.set_cons_zero, List.set_cons_succ, List.getElem_toArray, List.getElem_cons_succ, List.getElem_cons_zero]
                  clear hHeld
                  refine wpAnyH_ready (rs := [9]) (by kernel_rfl) (by simp) ?_
                  refine AllReadyH.cons rfl (fun K hK => ?_) AllReadyH.nil
                  refine step_store_rowC rfl 39 _ _ rfl (W2.heap.size) #[.slice m1 rk.length m2, .slice n1 rp.length n2, .slice o1 re.length o2] rfl rfl 39 _ HXB.out (by kernel_rfl) rfl (by simp [Value.oneCell']) ?_
                  have HB2 : Hid (Below w20.heap.size w20 (W4.setRow (W2.heap.size) #[.slice m1 rk.length m2, .slice n1 rp.length n2, .slice o1 re.length o2])) := below_setRow HBW.out HXL.out _
                  have HNF : Hid (BookNew w20.heap.size (W4.setRow (W2.heap.size) #[.slice m1 rk.length m2, .slice n1 rp.length n2, .slice o1 re.length o2]) (.slice m1 rk.length m2) (.slice n1 rp.length n2) (.slice o1 re.length o2) rk rp re) := HN.out.box HXB.out (grown_rowF _ _ _)
                  have HXF : Hid ((W4.setRow (W2.heap.size) #[.slice m1 rk.length m2, .slice n1 rp.length n2, .slice o1 re.length o2]).heap[W2.heap.size]? = some (.cells #[.slice m1 rk.length m2, .slice n1 rp.length n2, .slice o1 re.length o2] 39 (0, 0))) := setRow_heap _ _ _ _ _ _ HXB.out
                  have hHeld := HSS.out _ HB2.out
                  refine hK.out _ _ hHeld (fun _ => ?_)
                  clear hK K
                  refine wpAnyH_take (i := 10) (v := ?_) rfl (by kernel_rfl) (by kernel_rfl) (by kernel_rfl) (fun _ _ _ h => h) (Or.inl ⟨by rfl, ?_⟩) (by assumption) ?_
                  rotate_left
                  · intro w hSw; (try dsimp only at hSw); go_simp; try with_reducible rfl
                  simp only [Act.put, List.setIfInBounds_toArray, List.set_cons_zero, List.set_cons_succ, List.getElem_toArray, List.getElem_cons_succ, List.getElem_cons_zero]
                  clear hHeld
                  refine wpAnyH_done (by kernel_rfl) ?_ _
                  refine NoPanic.normal ?_
                  go_wp2_with fail
                  go_meet
                  exact ⟨W2.heap.size, _, _, _, rfl, rfl, HB2.out, HXF.out, HNF.out, HXL.out⟩
              · go_simp
                have hbb : Below W1.heap.size W1 (W1.alloc (.cells #[.slice none 0 0, .slice none 0 0, .slice none 0 0] 39)) := (Below.refl _ _).alloc (Nat.le_refl _) _
                have HB2 : Hid (Below w20.heap.size w20 (W1.alloc (.cells #[.slice none 0 0, .slice none 0 0, .slice none 0 0] 39))) := below_step HBW.out hbb
                have HBK2 := toHidC (HBK.out.keep hbb)
                have HXB : Hid ((W1.alloc (.cells #[.slice none 0 0, .slice none 0 0, .slice none 0 0] 39)).heap[W1.heap.size]? = some (.cells #[.slice none 0 0, .slice none 0 0, .slice none 0 0] 39 (0, 0))) := heap_newF W1 _
                have HXL : Hid (w20.heap.size ≤ W1.heap.size) := HBW.out.size
                refine hK.out _ _ (HSS.out _ HB2.out) (fun _ => ?_)
                clear hbb
                clear hK K HBW HBK
                have HBW := HB2
                clear HB2
                have HBK := HBK2
                clear HBK2
                generalize (W1.alloc (.cells #[.slice none 0 0, .slice none 0 0, .slice none 0 0] 39)) = W2 at *
                refine wpAnyH_ready (rs := [3]) (by kernel_rfl) (by simp) ?_
                refine AllReadyH.cons rfl (fun K hK => ?_) AllReadyH.nil
                go_simp
                refine (GC.out _).mono ?_
                rintro e W3 ⟨rfl, hbb⟩
                have HB2 : Hid (Below w20.heap.size w20 W3) := below_step HBW.out hbb
                have HBK2 := toHidC (HBK.out.keep hbb)
                have HXB2 := toHidC ((hbb.block _ (Array.getElem?_eq_some_iff.1 HXB.out).1).trans HXB.out)
                refine hK.out _ _ (HSS.out _ HB2.out) (fun _ => ?_)
                clear hbb
                clear hK K HBW HBK HXB
                have HBW := HB2
                clear HB2
                have HBK := HBK2
                clear HBK2
                have HXB := HXB2
                clear HXB2
                refine wpAnyH_ready (rs := [4]) (by kernel_rfl) (by simp) ?_
                refine AllReadyH.cons rfl (fun K hK => ?_) AllReadyH.nil
                go_simp
                refine (GI.out _ _ _ _ HBK.out).mono ?_
                rintro e W4 ⟨xq, yq, zq, rfl, hNq, hbb⟩
                have HB2 : Hid (Below w20.heap.size w20 W4) := below_step HBW.out hbb
                have HXB2 := toHidC ((hbb.block _ (Array.getElem?_eq_some_iff.1 HXB.out).1).trans HXB.out)
                have HN : Hid (BookNew w20.heap.size W4 xq yq zq rk rp re) := hNq.mono HBW.out.size
                obtain ⟨m1, m2, n1, n2, o1, o2, rfl, rfl, rfl⟩ := hNq.slices
                have hHeld := HSS.out _ HB2.out
                refine hK.out _ _ hHeld (fun _ => ?_)
                clear hbb hNq HBK
                clear hK K HBW HXB
                have HBW := HB2
                clear HB2
                have HXB := HXB2
                clear HXB2
                refine wpAnyH_take (i := 5) (v := ?_) rfl (by kernel_rfl) (by kernel_rfl) (by kernel_rfl) (fun _ _ _ h => h) (Or.inl ⟨by rfl, ?_⟩) (by assumption) ?_
                rotate_left
                · intro w hSw; (try dsimp only at hSw); go_simp; try with_reducible rfl
                simp only [Act.put, List.setIfInBounds_toArray, List.set_cons_zero, List.set_cons_succ, List.getElem_toArray, List.getElem_cons_succ, List.getElem_cons_zero]
                refine wpAnyH_take (i := 6) (v := ?_) rfl (by kernel_rfl) (by kernel_rfl) (by kernel_rfl) (fun _ _ _ h => h) (Or.inl ⟨by rfl, ?_⟩) (by assumption) ?_
                rotate_left
                · intro w hSw; (try dsimp only at hSw); go_simp; try with_reducible rfl
                simp only [Act.put, List.setIfInBounds_toArray, List.set_cons_zero, List.set_cons_succ, List.getElem_toArray, List.getElem_cons_succ, List.getElem_cons_zero]
                refine wpAnyH_take (i := 7) (v := ?_) rfl (by kernel_rfl) (by kernel_rfl) (by kernel_rfl) (fun _ _ _ h => h) (Or.inl ⟨by rfl, ?_⟩) (by assumption) ?_
                rotate_left
                · intro w hSw; (try dsimp only at hSw); go_simp; try with_reducible rfl
                simp only [Act.put, List.setIfInBounds_toArray, List.set_cons_zero, List.set_cons_succ, List.getElem_toArray, List.getElem_cons_succ, List.getElem_cons_zero]
                clear hHeld
                refine wpAnyH_ready (rs := [9]) (by kernel_rfl) (by simp) ?_
                refine AllReadyH.cons rfl (fun K hK => ?_) AllReadyH.nil
                refine step_store_rowC rfl 39 _ _ rfl (W1.heap.size) #[.slice m1 rk.length m2, .slice n1 rp.length n2, .slice o1 re.length o2] rfl rfl 39 _ HXB.out (by kernel_rfl) rfl (by simp [Value.oneCell']) ?_
                have HB2 : Hid (Below w20.heap.size w20 (W4.setRow (W1.heap.size) #[.slice m1 rk.length m2, .slice n1 rp.length n2, .slice o1 re.length o2])) := below_setRow HBW.out HXL.out _
                have HNF : Hid (BookNew w20.heap.size (W4.setRow (W1.heap.size) #[.slice m1 rk.length m2, .slice n1 rp.length n2, .slice o1 re.length o2]) (.slice m1 rk.length m2) (.slice n1 rp.length n2) (.slice o1 re.length o2) rk rp re) := HN.out.box HXB.out (grown_rowF _ _ _)
                have HXF : Hid ((W4.setRow (W1.heap.size) #[.slice m1 rk.length m2, .slice n1 rp.length n2, .slice o1 re.length o2]).heap[W1.heap.size]? = some (.cells #[.slice m1 rk.length m2, .slice n1 rp.length n2, .slice o1 re.length o2] 39 (0, 0))) := setRow_heap _ _ _ _ _ _ HXB.out
                have hHeld := HSS.out _ HB2.out
                refine hK.out _ _ hHeld (fun _ => ?_)
                clear hK K
                refine wpAnyH_take (i := 10) (v := ?_) rfl (by kernel_rfl) (by kernel_rfl) (by kernel_rfl) (fun _ _ _ h => h) (Or.inl ⟨by rfl, ?_⟩) (by assumption) ?_
                rotate_left
                · intro w hSw; (try dsimp only at hSw); go_simp; try with_reducible rfl
                simp only [Act.put, List.setIfInBounds_toArray, List.set_cons_zero, List.set_cons_succ, List.getElem_toArray, List.getElem_cons_succ, List.getElem_cons_zero]
                clear hHeld
                refine wpAnyH_done (by kernel_rfl) ?_ _
                refine NoPanic.normal ?_
                go_wp2_with fail
                go_meet
                exact ⟨W1.heap.size, _, _, _, rfl, rfl, HB2.out, HXF.out, HNF.out, HXL.out⟩
            · go_simp
              have hbb : Below W0.heap.size W0 (W0.alloc (.cells #[.slice none 0 0, .slice none 0 0, .slice none 0 0] 39)) := (Below.refl _ _).alloc (Nat.le_refl _) _
              have HB2 : Hid (Below w20.heap.size w20 (W0.alloc (.cells #[.slice none 0 0, .slice none 0 0, .slice none 0 0] 39))) := below_step HBW.out hbb
              have HXB : Hid ((W0.alloc (.cells #[.slice none 0 0, .slice none 0 0, .slice none 0 0] 39)).heap[W0.heap.size]? = some (.cells #[.slice none 0 0, .slice none 0 0, .slice none 0 0] 39 (0, 0))) := heap_newF W0 _
              have HXL : Hid (w20.heap.size ≤ W0.heap.size) := HBW.out.size
              refine hK.out _ _ (HSS.out _ HB2.out) (fun _ => ?_)
              clear hbb
              clear hK K HBW
              have HBW := HB2
              clear HB2
              generalize (W0.alloc (.cells #[.slice none 0 0, .slice none 0 0, .slice none 0 0] 39)) = W1 at *
              refine wpAnyH_ready (rs := [1]) (by kernel_rfl) (by simp) ?_
              refine AllReadyH.cons rfl (fun K hK => ?_) AllReadyH.nil
              go_simp
              refine (GA.out _ (below_step L20.out.below HBW.out)).mono ?_
              rintro e W2 ⟨kb, pb, eb, rfl, hBb, hbb⟩
              have HB2 : Hid (Below w20.heap.size w20 W2) := below_step HBW.out hbb
              have HXB2 := toHidC ((hbb.block _ (Array.getElem?_eq_some_iff.1 HXB.out).1).trans HXB.out)
              have HBK : Hid (BookAt W2 kb pb eb ks ps es) := hBb.at SS.out
              refine hK.out _ _ (HSS.out _ HB2.out) (fun _ => ?_)
              clear hBb hbb
              clear hK K HBW HXB
              have HBW := HB2
              clear HB2
              have HXB := HXB2
              clear HXB2
              refine wpAnyH_ready (rs := [3]) (by kernel_rfl) (by simp) ?_
              refine AllReadyH.cons rfl (fun K hK => ?_) AllReadyH.nil
              go_simp
              refine (GC.out _).mono ?_
              rintro e W3 ⟨rfl, hbb⟩
              have HB2 : Hid (Below w20.heap.size w20 W3) := below_step HBW.out hbb
              have HBK2 := toHidC (HBK.out.keep hbb)
              have HXB2 := toHidC ((hbb.block _ (Array.getElem?_eq_some_iff.1 HXB.out).1).trans HXB.out)
              refine hK.out _ _ (HSS.out _ HB2.out) (fun _ => ?_)
              clear hbb
              clear hK K HBW HBK HXB
              have HBW := HB2
              clear HB2
              have HBK := HBK2
              clear HBK2
              have HXB := HXB2
              clear HXB2
              refine wpAnyH_ready (rs := [4]) (by kernel_rfl) (by simp) ?_
              refine AllReadyH.cons rfl (fun K hK => ?_) AllReadyH.nil
              go_simp
              refine (GI.out _ _ _ _ HBK.out).mono ?_
              rintro e W4 ⟨xq, yq, zq, rfl, hNq, hbb⟩
              have HB2 : Hid (Below w20.heap.size w20 W4) := below_step HBW.out hbb
              have HXB2 := toHidC ((hbb.block _ (Array.getElem?_eq_some_iff.1 HXB.out).1).trans HXB.out)
              have HN : Hid (BookNew w20.heap.size W4 xq yq zq rk rp re) := hNq.mono HBW.out.size
              obtain ⟨m1, m2, n1, n2, o1, o2, rfl, rfl, rfl⟩ := hNq.slices
              have hHeld := HSS.out _ HB2.out
              refine hK.out _ _ hHeld (fun _ => ?_)
              clear hbb hNq HBK
              clear hK K HBW HXB
              have HBW := HB2
              clear HB2
              have HXB := HXB2
              clear HXB2
              refine wpAnyH_take (i := 5) (v := ?_) rfl (by kernel_rfl) (by kernel_rfl) (by kernel_rfl) (fun _ _ _ h => h) (Or.inl ⟨by rfl, ?_⟩) (by assumption) ?_
              rotate_left
              · intro w hSw; (try dsimp only at hSw); go_simp; try with_reducible rfl
              simp only [Act.put, List.setIfInBounds_toArray, List.set_cons_zero, List.set_cons_succ, List.getElem_toArray, List.getElem_cons_succ, List.getElem_cons_zero]
              refine wpAnyH_take (i := 6) (v := ?_) rfl (by kernel_rfl) (by kernel_rfl) (by kernel_rfl) (fun _ _ _ h => h) (Or.inl ⟨by rfl, ?_⟩) (by assumption) ?_
              rotate_left
              · intro w hSw; (try dsimp only at hSw); go_simp; try with_reducible rfl
              simp only [Act.put, List.setIfInBounds_toArray, List.set_cons_zero, List.set_cons_succ, List.getElem_toArray, List.getElem_cons_succ, List.getElem_cons_zero]
              refine wpAnyH_take (i := 7) (v := ?_) rfl (by kernel_rfl) (by kernel_rfl) (by kernel_rfl) (fun _ _ _ h => h) (Or.inl ⟨by rfl, ?_⟩) (by assumption) ?_
              rotate_left
              · intro w hSw; (try dsimp only at hSw); go_simp; try with_reducible rfl
              simp only [Act.put, List.setIfInBounds_toArray, List.set_cons_zero, List.set_cons_succ, List.getElem_toArray, List.getElem_cons_succ, List.getElem_cons_zero]
              clear hHeld
              refine wpAnyH_ready (rs := [9]) (by kernel_rfl) (by simp) ?_
              refine AllReadyH.cons rfl (fun K hK => ?_) AllReadyH.nil
              refine step_store_rowC rfl 39 _ _ rfl (W0.heap.size) #[.slice m1 rk.length m2, .slice n1 rp.length n2, .slice o1 re.length o2] rfl rfl 39 _ HXB.out (by kernel_rfl) rfl (by simp [Value.oneCell']) ?_
              have HB2 : Hid (Below w20.heap.size w20 (W4.setRow (W0.heap.size) #[.slice m1 rk.length m2, .slice n1 rp.length n2, .slice o1 re.length o2])) := below_setRow HBW.out HXL.out _
              have HNF : Hid (BookNew w20.heap.size (W4.setRow (W0.heap.size) #[.slice m1 rk.length m2, .slice n1 rp.length n2, .slice o1 re.length o2]) (.slice m1 rk.length m2) (.slice n1 rp.length n2) (.slice o1 re.length o2) rk rp re) := HN.out.box HXB.out (grown_rowF _ _ _)
              have HXF : Hid ((W4.setRow (W0.heap.size) #[.slice m1 rk.length m2, .slice n1 rp.length n2, .slice o1 re.length o2]).heap[W0.heap.size]? = some (.cells #[.slice m1 rk.length m2, .slice n1 rp.length n2, .slice o1 re.length o2] 39 (0, 0))) := setRow_heap _ _ _ _ _ _ HXB.out
              have hHeld := HSS.out _ HB2.out
              refine hK.out _ _ hHeld (fun _ => ?_)
              clear hK K
              refine wpAnyH_take (i := 10) (v := ?_) rfl (by kernel_rfl) (by kernel_rfl) (by kernel_rfl) (fun _ _ _ h => h) (Or.inl ⟨by rfl, ?_⟩) (by assumption) ?_
              rotate_left
              · intro w hSw; (try dsimp only at hSw); go_simp; try with_reducible rfl
              simp only [Act.put, List.setIfInBounds_toArray, List.set_cons_zero, List.set_cons_succ, List.getElem_toArray, List.getElem_cons_succ, List.getElem_cons_zero]
              clear hHeld
              refine wpAnyH_done (by kernel_rfl) ?_ _
              refine NoPanic.normal ?_
              go_wp2_with fail
              go_meet
              exact ⟨W0.heap.size, _, _, _, rfl, rfl, HB2.out, HXF.out, HNF.out, HXL.out⟩
          case rest =>
            obtain ⟨Z, xv, yv, zv, rfl, rfl, hq⟩ := hcut
            obtain ⟨m1, m2, n1, n2, o1, o2, rfl, rfl, rfl⟩ := hq.out.2.2.1.slices
            have Z23 : Hid (wc.heap[Z]? = some (.cells #[.slice m1 rk.length m2, .slice n1 rp.length n2, .slice o1 re.length o2] 39 (0, 0))) := hq.out.2.1
            have V23 : Hid (BookNew w20.heap.size wc (.slice m1 rk.length m2) (.slice n1 rp.length n2) (.slice o1 re.length o2) rk rp re) := hq.out.2.2.1
            have Q23 : Hid (Below w20.heap.size w20 wc) := hq.out.1
            clear hq
            generalize wc = w23 at *
            obtain ⟨g0, g1, g2⟩ : w23.cell? ⟨Z, 0, none⟩ = some (.slice m1 rk.length m2) ∧ w23.cell? ⟨Z, 1, none⟩ = some (.slice n1 rp.length n2) ∧ w23.cell? ⟨Z, 2, none⟩ = some (.slice o1 re.length o2) := three_cellsF Z23.out
            have L23 : Hid (Bxs w w23 [(Y, #[.slice u1 rk.length u2, .slice v1 rp.length v2, .slice t1 re.length t2], 39), (w6.heap.size, #[.slice k6 ks.length k6', .slice p6 ps.length p6', .slice e6 es.length e6'], 39), (X, #[.slice x1 rk.length x2, .slice y1 rp.length y2, .slice z1 re.length z2], 39), (w.heap.size, #[.slice ak ks.length ck, .slice ap ps.length cp, .slice ae es.length ce], 28), (w.heap.size + 1, #[.string c.f, .int .i64 c.what, .int .i64 c.num, .string c.v], 30)]) := L20.out.call Q23.out
            obtain ⟨f0, f1, f2⟩ : w23.cell? ⟨X, 0, none⟩ = some (.slice x1 rk.length x2) ∧ w23.cell? ⟨X, 1, none⟩ = some (.slice y1 rp.length y2) ∧ w23.cell? ⟨X, 2, none⟩ = some (.slice z1 re.length z2) := ⟨L23.out.cell 2 rfl 0, L23.out.cell 2 rfl 1, L23.out.cell 2 rfl 2⟩
            go_wp2_with fail
            refine (eqBook_any _ _ _ _ _ _ rk rp re _ V23.out.at (VB.out _ (below_step U20.out Q23.out)).at).mono ?_
            rintro e w24 ⟨rfl, hb24⟩
            have L24 : Hid (Bxs w w24 [(Y, #[.slice u1 rk.length u2, .slice v1 rp.length v2, .slice t1 re.length t2], 39), (w6.heap.size, #[.slice k6 ks.length k6', .slice p6 ps.length p6', .slice e6 es.length e6'], 39), (X, #[.slice x1 rk.length x2, .slice y1 rp.length y2, .slice z1 re.length z2], 39), (w.heap.size, #[.slice ak ks.length ck, .slice ap ps.length cp, .slice ae es.length ce], 28), (w.heap.size + 1, #[.string c.f, .int .i64 c.what, .int .i64 c.num, .string c.v], 30)]) := L23.out.call hb24
            have M24 : Hid (BookM w24 (.slice u1 rk.length u2) (.slice v1 rp.length v2) (.slice t1 re.length t2) M) := (M20.out.keep Q23.out).keep hb24
            clear hb24 g0 g1 g2 f0 f1 f2 L23 Q23 Z23 V23
            obtain ⟨g0, g1, g2⟩ : w24.cell? ⟨Y, 0, none⟩ = some (.slice u1 rk.length u2) ∧ w24.cell? ⟨Y, 1, none⟩ = some (.slice v1 rp.length v2) ∧ w24.cell? ⟨Y, 2, none⟩ = some (.slice t1 re.length t2) := ⟨L24.out.cell 0 rfl 0, L24.out.cell 0 rfl 1, L24.out.cell 0 rfl 2⟩
            go_wp2_with fail
            refine (heldBookG_any _ _ _ M _ M24.out).mono ?_
            rintro e w25 ⟨rfl, hb25⟩
            have L25 : Hid (Below w.heap.size w w25) := below_step L24.out.below hb25
            clear hb25 L24 M24 g0 g1 g2
            go_wp2
            go_ret
            exact ⟨rfl, L25.out⟩
    · rw [szR_neg hsz2]
      go_wp2
      go_ret
      exact ⟨rfl, L2.out.below⟩
  · rw [szR_neg hsz]
    go_wp2
    go_ret
    exact ⟨rfl, L1.out.below⟩
end Go.Proofs.YtfjblenkcfdbiaaGreat
