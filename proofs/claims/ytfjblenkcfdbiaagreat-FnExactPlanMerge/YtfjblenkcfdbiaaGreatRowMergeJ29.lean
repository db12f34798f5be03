/-
  For the proof of merge_holds: part 29 (TakeS, MrgS).
-/
import Derived.Test.YtfjblenkcfdbiaaGreatRowMergeJ28
/-
  The specification: a change taken into a book.
-/
namespace Go.Proofs.YtfjblenkcfdbiaaGreat
open Go.RowKit
set_option linter.unusedSimpArgs false
set_option linter.unusedVariables false

theorem Blk3.low {w wr wy : World} {X Y Z : Obj} {lo : Nat} (h : Blk3 w wr X Y Z) (hb : Below lo wr wy) (hl : w.heap.size + 3 ≤ lo) : Blk3 w wy X Y Z := by
  have hz := h.z
  exact ⟨h.below.trans (hb.mono (by omega)), (hb.block _ (by omega)).trans h.b0, (hb.block _ (by omega)).trans h.b1, (hb.block _ (by omega)).trans h.b2⟩
theorem book_len {ks ps : List Tri} {es : List Ent} (h : bookB ks ps es = true) : es.length ≤ 12 := by
  rw [book_eq] at h
  simp only [Bool.and_eq_true, decide_eq_true_eq] at h
  exact h.2.1
theorem book_base {ks ps : List Tri} {es : List Ent} (h : bookB ks ps es = true) : baseB ks ps = true := by
  rw [book_eq] at h
  simp only [Bool.and_eq_true] at h
  exact h.1
theorem putE_small {es : List Ent} (n : ByteArray) (f : Fld) (h : ∀ e ∈ es, e.fs.length ≤ 1048575) : ∀ e ∈ putE es n f, e.fs.length ≤ 1048576 := by
  induction es with
  | nil => intro e he; simp [putE] at he; subst he; simp
  | cons x es ih =>
    intro e he
    rw [putE] at he
    split at he
    · rcases List.mem_cons.1 he with rfl | he
      · have := putF_len x.fs f
        have := h x (by simp)
        show (putF x.fs f).length ≤ _
        omega
      · have := h e (by simp [he]); omega
    · split at he
      · rcases List.mem_cons.1 he with rfl | he
        · have := h e (by simp); omega
        · exact ih (fun e he => h e (by simp [he])) e he
      · rcases List.mem_cons.1 he with rfl | he
        · simp
        · have := h e he; omega
theorem book_fs5 {ks ps : List Tri} {es : List Ent} (h : bookB ks ps es = true) : ∀ e ∈ es, e.fs.length ≤ 5 := fun e he => by
  have hf := book_fields h he
  have hs := fields_sorted hf
  have hw : ∀ f ∈ e.fs, 1 ≤ f.what ∧ f.what ≤ 5 := fun f hf' => fit_what (fields_fit hf hf')
  clear hf
  generalize e.fs = l at *
  have key : ∀ (l : List Fld) (m : Int), 1 ≤ m → l.Pairwise (fun a b => a.what < b.what) → (∀ f ∈ l, m ≤ f.what ∧ f.what ≤ 5) → (l.length : Int) ≤ 6 - m ∨ l.length = 0 := by
    intro l
    induction l with
    | nil => intro m _ _ _; exact .inr rfl
    | cons a l ih =>
      intro m hm hp hb
      have hp' := List.pairwise_cons.1 hp
      have ha := hb a (by simp)
      left
      rcases ih (a.what + 1) (by omega) hp'.2 (fun f hf => ⟨by have := hp'.1 f hf; omega, (hb f (by simp [hf])).2⟩) with h1 | h1
      · simp only [List.length_cons]; omega
      · simp only [List.length_cons, h1]; omega
  rcases key l 1 (by omega) hs hw with h1 | h1 <;> omega

set_option maxRecDepth 100000 in
set_option maxHeartbeats 12800000 in
theorem specTake_any (vk vp ve : Value) (ks ps : List Tri) (es : List Ent) (c : Chg) (w : World) (hB : BookAt w vk vp ve ks ps es) (nB : BNames ks ps es) (sB : BSmall ks ps es) (hcf : c.f.size ≤ 1048576) (hcv : c.v.size ≤ 1048576) :
    Calls Tryz.prog 8 #[.agg #[vk, vp, ve], .agg #[.string c.f, .int .i64 c.what, .int .i64 c.num, .string c.v]] w fun e w' => ∃ x y z, e = .returned (.tuple #[.agg #[x, y, z], .int .i64 (takeC ks ps es c)]) ∧ BookNew w.heap.size w' x y z (takeT ks ps es ks) (takeT ks ps es ps) (takeE ks ps es c) ∧ Below w.heap.size w w' := by
  have HB : Hid (BookAt w vk vp ve ks ps es) := hB
  have NB : Hid (BNames ks ps es) := nB
  have SB : Hid (BSmall ks ps es) := sB
  obtain ⟨⟨ak, ck, rfl, -, -, -⟩, ⟨ap, cp, rfl, -, -, -⟩, ⟨ae, ce, rfl, -, -, -⟩⟩ := hB
  have HFT : Hid (∀ wx : World, Below w.heap.size w wx → Calls Tryz.prog 26 #[.agg #[.slice ak ks.length ck, .slice ap ps.length cp], .agg #[.string c.f, .int .i64 c.what, .int .i64 c.num, .string c.v]] wx fun e w' => e = .returned (.bool (baseB ks ps && fitB ks ps c)) ∧ Below wx.heap.size wx w') := fun wx hx => specChangeOk_any _ _ ks ps c wx (HB.out.k.keep hx) (HB.out.p.keep hx) NB.out.k NB.out.p hcf hcv
  clear nB sB
  go_enter Tryz.func8, Tryz.ntmps8
  have HX0 : Hid (Blk3 w _ _ _ _) := Blk3.start w (.cells #[.slice ak ks.length ck, .slice ap ps.length cp, .slice ae es.length ce] 39) (.cells #[.string c.f, .int .i64 c.what, .int .i64 c.num, .string c.v] 43) (.cells #[.slice none 0 0, .slice none 0 0, .slice none 0 0] 39)
  go_wp2_with fail
  refine (specBookOk_any _ _ _ ks ps es _ (HB.out.keep HX0.out.below) NB.out SB.out).mono ?_
  rintro e w1 ⟨rfl, hb1⟩
  have HX1 : Hid (Blk3 w w1 (.cells #[.slice ak ks.length ck, .slice ap ps.length cp, .slice ae es.length ce] 39) (.cells #[.string c.f, .int .i64 c.what, .int .i64 c.num, .string c.v] 43) (.cells #[.slice none 0 0, .slice none 0 0, .slice none 0 0] 39)) := HX0.out.call hb1
  clear HX0 hb1
  obtain ⟨y0, y1, y2⟩ : w1.cell? ⟨w.heap.size, 0, none⟩ = some (.slice ak ks.length ck) ∧ w1.cell? ⟨w.heap.size, 1, none⟩ = some (.slice ap ps.length cp) ∧ w1.cell? ⟨w.heap.size, 2, none⟩ = some (.slice ae es.length ce) := by simp [World.cell?, HX1.out.b0]
  have hr1 := HX1.out.b2
  have hz1 := HX1.out.z
  cases hbb : bookB ks ps es
  · have HE : Hid (takeC ks ps es c = 1 ∧ takeT ks ps es ks = [] ∧ takeT ks ps es ps = [] ∧ takeE ks ps es c = []) := by
      show _ ∧ _ ∧ _ ∧ _
      unfold takeC takeT takeE; rw [hbb]; exact ⟨rfl, rfl, rfl, rfl⟩
    clear hbb
    go_wp2_with (refine wpList_store_row rfl 39 _ _ rfl (w.heap.size + 1 + 1) #[.slice none 0 0, .slice none 0 0, .slice none 0 0] rfl rfl 39 _ hr1 (by kernel_rfl) rfl (by simp [Value.oneCell']) ?_)
    exact bodyPost_ret (v := .tuple #[.agg #[.slice none 0 0, .slice none 0 0, .slice none 0 0], .int .i64 1]) (by simp [results, Tryz.results8, go_sem, cell_setRow_same _ _ _ _ _ _ _ hr1]) rfl ⟨_, _, _, by rw [HE.out.1], by rw [HE.out.2.1, HE.out.2.2.1, HE.out.2.2.2]; exact BookNew.none _ _, below_setRow HX1.out.below (by omega) _⟩
  have HBB : Hid (bookB ks ps es = true) := hbb
  have HTK : Hid (takeT ks ps es ks = ks ∧ takeT ks ps es ps = ps) := by
    show _ ∧ _
    unfold takeT; rw [hbb]; exact ⟨rfl, rfl⟩
  clear hbb hr1
  have hl12 := book_len HBB.out
  have HF5 : Hid (∀ e ∈ es, e.fs.length ≤ 5) := book_fs5 HBB.out
  go_wp2_with fail
  refine (specL3Copy_any _ _ _ ks ps es _ (HB.out.keep HX1.out.below) SB.out.k SB.out.p SB.out.e SB.out.f).mono ?_
  rintro e w2 ⟨x, y, z, rfl, hN2, hb2⟩
  obtain ⟨a1, c1, a2, c2, a3, c3, rfl, rfl, rfl⟩ := hN2.slices
  have hal : Below w2.heap.size w2 (w2.alloc (.cells #[.slice a1 ks.length c1, .slice a2 ps.length c2, .slice a3 es.length c3] 39)) := (Below.refl _ _).alloc (Nat.le_refl _) _
  have HX3 : Hid (Blk3 w (w2.alloc (.cells #[.slice a1 ks.length c1, .slice a2 ps.length c2, .slice a3 es.length c3] 39)) (.cells #[.slice ak ks.length ck, .slice ap ps.length cp, .slice ae es.length ce] 39) (.cells #[.string c.f, .int .i64 c.what, .int .i64 c.num, .string c.v] 43) (.cells #[.slice none 0 0, .slice none 0 0, .slice none 0 0] 39)) := (HX1.out.call hb2).call hal
  have HN3 : Hid (BookNew (w1.heap.size + 2) (w2.alloc (.cells #[.slice a1 ks.length c1, .slice a2 ps.length c2, .slice a3 es.length c3] 39)) (.slice a1 ks.length c1) (.slice a2 ps.length c2) (.slice a3 es.length c3) ks ps es) := hN2.keep hal
  have HT3 : Hid ((w2.alloc (.cells #[.slice a1 ks.length c1, .slice a2 ps.length c2, .slice a3 es.length c3] 39)).heap[w2.heap.size]? = some (.cells #[.slice a1 ks.length c1, .slice a2 ps.length c2, .slice a3 es.length c3] 39 (0, 0))) := heap_newF w2 _
  have hs12 : w1.heap.size ≤ w2.heap.size := hb2.size
  obtain ⟨x0, x1, x2, x3⟩ : (w2.alloc (.cells #[.slice a1 ks.length c1, .slice a2 ps.length c2, .slice a3 es.length c3] 39)).cell? ⟨w.heap.size + 1, 0, none⟩ = some (.string c.f) ∧ (w2.alloc (.cells #[.slice a1 ks.length c1, .slice a2 ps.length c2, .slice a3 es.length c3] 39)).cell? ⟨w.heap.size + 1, 1, none⟩ = some (.int .i64 c.what) ∧ (w2.alloc (.cells #[.slice a1 ks.length c1, .slice a2 ps.length c2, .slice a3 es.length c3] 39)).cell? ⟨w.heap.size + 1, 2, none⟩ = some (.int .i64 c.num) ∧ (w2.alloc (.cells #[.slice a1 ks.length c1, .slice a2 ps.length c2, .slice a3 es.length c3] 39)).cell? ⟨w.heap.size + 1, 3, none⟩ = some (.string c.v) := by simp only [World.cell?, HX3.out.b1]; simp
  obtain ⟨q0, q1, q2⟩ : (w2.alloc (.cells #[.slice a1 ks.length c1, .slice a2 ps.length c2, .slice a3 es.length c3] 39)).cell? ⟨w.heap.size, 0, none⟩ = some (.slice ak ks.length ck) ∧ (w2.alloc (.cells #[.slice a1 ks.length c1, .slice a2 ps.length c2, .slice a3 es.length c3] 39)).cell? ⟨w.heap.size, 1, none⟩ = some (.slice ap ps.length cp) ∧ (w2.alloc (.cells #[.slice a1 ks.length c1, .slice a2 ps.length c2, .slice a3 es.length c3] 39)).cell? ⟨w.heap.size, 2, none⟩ = some (.slice ae es.length ce) := by simp only [World.cell?, HX3.out.b0]; simp
  clear hN2 hb2 hal HX1 y0 y1 y2
  go_wp2_with fail
  refine (HFT.out _ HX3.out.below).mono ?_
  rintro e w4 ⟨rfl, hb4⟩
  have HX4 : Hid (Blk3 w w4 (.cells #[.slice ak ks.length ck, .slice ap ps.length cp, .slice ae es.length ce] 39) (.cells #[.string c.f, .int .i64 c.what, .int .i64 c.num, .string c.v] 43) (.cells #[.slice none 0 0, .slice none 0 0, .slice none 0 0] 39)) := HX3.out.call hb4
  have HN4 : Hid (BookNew (w1.heap.size + 2) w4 (.slice a1 ks.length c1) (.slice a2 ps.length c2) (.slice a3 es.length c3) ks ps es) := HN3.out.keep hb4
  have HT4 : Hid (w4.heap[w2.heap.size]? = some (.cells #[.slice a1 ks.length c1, .slice a2 ps.length c2, .slice a3 es.length c3] 39 (0, 0))) := (hb4.block _ (by simp)).trans HT3.out
  have HBF : Hid ((baseB ks ps && fitB ks ps c) = fitB ks ps c) := by
    show _ = _
    rw [book_base HBB.out, Bool.true_and]
  rw [HBF.out]
  clear hb4 HX3 HN3 HT3 x0 x1 x2 x3 q0 q1 q2 HBF
  obtain ⟨x0, x1, x2, x3⟩ : w4.cell? ⟨w.heap.size + 1, 0, none⟩ = some (.string c.f) ∧ w4.cell? ⟨w.heap.size + 1, 1, none⟩ = some (.int .i64 c.what) ∧ w4.cell? ⟨w.heap.size + 1, 2, none⟩ = some (.int .i64 c.num) ∧ w4.cell? ⟨w.heap.size + 1, 3, none⟩ = some (.string c.v) := by simp [World.cell?, HX4.out.b1]
  obtain ⟨q0, q1, q2⟩ : w4.cell? ⟨w.heap.size, 0, none⟩ = some (.slice ak ks.length ck) ∧ w4.cell? ⟨w.heap.size, 1, none⟩ = some (.slice ap ps.length cp) ∧ w4.cell? ⟨w.heap.size, 2, none⟩ = some (.slice ae es.length ce) := by simp [World.cell?, HX4.out.b0]
  obtain ⟨t0, t1, t2⟩ := three_cellsF HT4.out
  have hr4 := HX4.out.b2
  have hz4 : w.heap.size < w4.heap.size := by have := HX4.out.z; omega
  cases hff : fitB ks ps c
  · have HE : Hid (takeC ks ps es c = 2 ∧ takeE ks ps es c = es) := by
      show _ ∧ _
      unfold takeC takeE; rw [HBB.out, hff]; exact ⟨rfl, rfl⟩
    clear hff
    go_wp2_with (refine wpList_store_row rfl 39 _ _ rfl (w.heap.size + 1 + 1) #[.slice a1 ks.length c1, .slice a2 ps.length c2, .slice a3 es.length c3] rfl rfl 39 _ hr4 (by kernel_rfl) rfl (by simp [Value.oneCell']) ?_)
    exact bodyPost_ret (v := .tuple #[.agg #[.slice a1 ks.length c1, .slice a2 ps.length c2, .slice a3 es.length c3], .int .i64 2]) (by simp [results, Tryz.results8, go_sem, cell_setRow_same _ _ _ _ _ _ _ hr4]) rfl ⟨_, _, _, by rw [HE.out.1], by rw [HTK.out.1, HTK.out.2, HE.out.2]; exact (HN4.out.far (grown_rowF w4 (w.heap.size + 1 + 1) _) (by omega)).mono (by omega), below_setRow HX4.out.below (by omega) _⟩
  · have HFF : Hid (fitB ks ps c = true) := hff
    have HC : Hid (takeC ks ps es c = (bif decide (12 < (putE es c.f (fldC c)).length) then 3 else 0) ∧ takeE ks ps es c = (bif decide (12 < (putE es c.f (fldC c)).length) then es else putE es c.f (fldC c))) := by
      show _ ∧ _
      unfold takeC takeE; rw [HBB.out, hff]; exact ⟨rfl, rfl⟩
    have HPL : Hid ((putE es c.f (fldC c)).length = if es.any (fun e => decide (e.name = c.f)) then es.length else es.length + 1) := putE_len c.f (fldC c) (book_names HBB.out)
    clear hff
    go_wp2_with fail
    refine (l3At_any _ _ _ es c.f _ (HB.out.keep HX4.out.below).e).mono ?_
    rintro e w5 ⟨r, rfl, hr, hb5⟩
    have HX5 : Hid (Blk3 w w5 (.cells #[.slice ak ks.length ck, .slice ap ps.length cp, .slice ae es.length ce] 39) (.cells #[.string c.f, .int .i64 c.what, .int .i64 c.num, .string c.v] 43) (.cells #[.slice none 0 0, .slice none 0 0, .slice none 0 0] 39)) := HX4.out.call hb5
    have HN5 : Hid (BookNew (w1.heap.size + 2) w5 (.slice a1 ks.length c1) (.slice a2 ps.length c2) (.slice a3 es.length c3) ks ps es) := HN4.out.keep hb5
    have HT5 : Hid (w5.heap[w2.heap.size]? = some (.cells #[.slice a1 ks.length c1, .slice a2 ps.length c2, .slice a3 es.length c3] 39 (0, 0))) := (hb5.block _ (Array.getElem?_eq_some_iff.1 HT4.out).1).trans HT4.out
    have HAN : Hid ((r = -1 ∧ (es.any fun e => decide (e.name = c.f)) = false) ∨ (0 ≤ r ∧ (es.any fun e => decide (e.name = c.f)) = true)) := by
      rcases hr with ⟨h1, h2⟩ | ⟨k, h1, h2, h3⟩
      · refine .inl ⟨h1, ?_⟩
        rw [List.any_eq_false]
        intro e he
        have := List.find?_eq_none.1 h2 e he
        simpa using this
      · refine .inr ⟨by omega, ?_⟩
        rw [List.any_eq_true]
        have h4 := List.find?_some h3
        exact ⟨_, List.mem_of_getElem? (eat_get h1), h4⟩
    clear hb5 HX4 HN4 HT4 x0 x1 x2 x3 q0 q1 q2 t0 t1 t2 hr4 hz4 hr
    obtain ⟨x0, x1, x2, x3⟩ : w5.cell? ⟨w.heap.size + 1, 0, none⟩ = some (.string c.f) ∧ w5.cell? ⟨w.heap.size + 1, 1, none⟩ = some (.int .i64 c.what) ∧ w5.cell? ⟨w.heap.size + 1, 2, none⟩ = some (.int .i64 c.num) ∧ w5.cell? ⟨w.heap.size + 1, 3, none⟩ = some (.string c.v) := by simp [World.cell?, HX5.out.b1]
    obtain ⟨q0, q1, q2⟩ : w5.cell? ⟨w.heap.size, 0, none⟩ = some (.slice ak ks.length ck) ∧ w5.cell? ⟨w.heap.size, 1, none⟩ = some (.slice ap ps.length cp) ∧ w5.cell? ⟨w.heap.size, 2, none⟩ = some (.slice ae es.length ce) := by simp [World.cell?, HX5.out.b0]
    obtain ⟨t0, t1, t2⟩ := three_cellsF HT5.out
    have hr5 := HX5.out.b2
    have hz5 : w.heap.size + 2 < w5.heap.size := HX5.out.z
    have hs15 : w1.heap.size + 2 ≤ w5.heap.size ∨ w1.heap.size + 2 > w5.heap.size := by omega
    have HGO : Hid (∀ wq : World, Blk3 w wq (.cells #[.slice ak ks.length ck, .slice ap ps.length cp, .slice ae es.length ce] 39) (.cells #[.string c.f, .int .i64 c.what, .int .i64 c.num, .string c.v] 43) (.cells #[.slice none 0 0, .slice none 0 0, .slice none 0 0] 39) → BookNew (w1.heap.size + 1) wq (.slice a1 ks.length c1) (.slice a2 ps.length c2) (.slice a3 es.length c3) ks ps es → w1.heap.size + 1 ≤ wq.heap.size → Calls Tryz.prog 28 #[.agg #[.slice a1 ks.length c1, .slice a2 ps.length c2, .slice a3 es.length c3], .string c.f, .agg #[.int .i64 c.what, .int .i64 c.num, .string c.v]] wq fun e w' => ∃ z', e = .returned (.agg #[.slice a1 ks.length c1, .slice a2 ps.length c2, z']) ∧ BookNew (w1.heap.size + 1) w' (.slice a1 ks.length c1) (.slice a2 ps.length c2) z' ks ps (putE es c.f (fldC c)) ∧ Blk3 w w' (.cells #[.slice ak ks.length ck, .slice ap ps.length cp, .slice ae es.length ce] 39) (.cells #[.string c.f, .int .i64 c.what, .int .i64 c.num, .string c.v] 43) (.cells #[.slice none 0 0, .slice none 0 0, .slice none 0 0] 39)) := fun wq hX hN hle => by
      refine (l3Put_any _ _ _ ks ps es c.f (fldC c) (w1.heap.size + 1) wq hN hle (book_names HBB.out) SB.out.e SB.out.f).mono ?_
      rintro e w' ⟨z', rfl, h1, h2, -⟩
      exact ⟨z', rfl, h1, hX.low h2 (by omega)⟩
    have HPS : Hid ((putE es c.f (fldC c)).length ≤ 13 ∧ ∀ e ∈ putE es c.f (fldC c), e.fs.length ≤ 1048576) := by
      refine ⟨?_, putE_small _ _ (fun e he => by have := HF5.out e he; omega)⟩
      rw [HPL.out]; split <;> omega
    have HNL : Hid (BookNew (w1.heap.size + 1) w5 (.slice a1 ks.length c1) (.slice a2 ps.length c2) (.slice a3 es.length c3) ks ps es) := HN5.out.mono (by omega)
    have hle5 : w1.heap.size + 1 ≤ w5.heap.size := by have := (Array.getElem?_eq_some_iff.1 HT5.out).1; omega
    clear hs15
    rcases HAN.out with ⟨hr1, ha⟩ | ⟨hr1, ha⟩
    · subst hr1
      have HPL2 : Hid ((putE es c.f (fldC c)).length = es.length + 1) := by show _ = _; rw [HPL.out, ha]; rfl
      clear ha HAN HPL
      by_cases h12 : 12 ≤ es.length
      · have h12' : (12 : Int) ≤ (es.length : Int) := by omega
        have HE : Hid (takeC ks ps es c = 3 ∧ takeE ks ps es c = es) := by
          have h0 : decide (12 < (putE es c.f (fldC c)).length) = true := by rw [HPL2.out]; simp; omega
          show _ ∧ _
          rw [HC.out.1, HC.out.2, h0]; exact ⟨rfl, rfl⟩
        go_wp2_with (refine wpList_store_row rfl 39 _ _ rfl (w.heap.size + 1 + 1) #[.slice a1 ks.length c1, .slice a2 ps.length c2, .slice a3 es.length c3] rfl rfl 39 _ hr5 (by kernel_rfl) rfl (by simp [Value.oneCell']) ?_)
        exact bodyPost_ret (v := .tuple #[.agg #[.slice a1 ks.length c1, .slice a2 ps.length c2, .slice a3 es.length c3], .int .i64 3]) (by simp [results, Tryz.results8, go_sem, cell_setRow_same _ _ _ _ _ _ _ hr5]) rfl ⟨_, _, _, by rw [HE.out.1], by rw [HTK.out.1, HTK.out.2, HE.out.2]; exact (HN5.out.far (grown_rowF w5 (w.heap.size + 1 + 1) _) (by omega)).mono (by omega), below_setRow HX5.out.below (by omega) _⟩
      · have h12' : ¬ (12 : Int) ≤ (es.length : Int) := by omega
        have HE : Hid (takeC ks ps es c = 0 ∧ takeE ks ps es c = putE es c.f (fldC c)) := by
          have h0 : decide (12 < (putE es c.f (fldC c)).length) = false := by rw [HPL2.out]; simp; omega
          show _ ∧ _
          rw [HC.out.1, HC.out.2, h0]; exact ⟨rfl, rfl⟩
        go_wp2_with fail
        refine (HGO.out _ HX5.out HNL.out hle5).mono ?_
        rintro e w6 ⟨z', rfl, hN6, hX6⟩
        have HX6 : Hid (Blk3 w w6 (.cells #[.slice ak ks.length ck, .slice ap ps.length cp, .slice ae es.length ce] 39) (.cells #[.string c.f, .int .i64 c.what, .int .i64 c.num, .string c.v] 43) (.cells #[.slice none 0 0, .slice none 0 0, .slice none 0 0] 39)) := hX6
        have HN6 : Hid (BookAt w6 (.slice a1 ks.length c1) (.slice a2 ps.length c2) z' ks ps (putE es c.f (fldC c))) := hN6.at
        obtain ⟨-, -, -, -, a4, c4, -, -, rfl⟩ := hN6.slices
        clear hX6 hN6
        go_wp2_with fail
        refine (specL3Copy_any _ _ _ ks ps (putE es c.f (fldC c)) _ HN6.out SB.out.k SB.out.p (by have := HPS.out.1; omega) HPS.out.2).mono ?_
        rintro e w7 ⟨x, y, z, rfl, hN7, hb7⟩
        obtain ⟨b1, d1, b2, d2, b3, d3, rfl, rfl, rfl⟩ := hN7.slices
        have HX7 : Hid (Blk3 w w7 (.cells #[.slice ak ks.length ck, .slice ap ps.length cp, .slice ae es.length ce] 39) (.cells #[.string c.f, .int .i64 c.what, .int .i64 c.num, .string c.v] 43) (.cells #[.slice none 0 0, .slice none 0 0, .slice none 0 0] 39)) := HX6.out.call hb7
        have hz6 := HX6.out.z
        have HN7 := toHidC hN7
        have hr7 := HX7.out.b2
        clear hN7 hb7 HX6 HN6 hr5 HX5 HN5 HT5 HNL
        generalize putE es c.f (fldC c) = es' at *
        go_wp2_with (refine wpList_store_row rfl 39 _ _ rfl (w.heap.size + 1 + 1) #[.slice b1 ks.length d1, .slice b2 ps.length d2, .slice b3 es'.length d3] rfl rfl 39 _ hr7 (by kernel_rfl) rfl (by simp [Value.oneCell']) ?_)
        exact bodyPost_ret (v := .tuple #[.agg #[.slice b1 ks.length d1, .slice b2 ps.length d2, .slice b3 es'.length d3], .int .i64 0]) (by simp [results, Tryz.results8, go_sem, cell_setRow_same _ _ _ _ _ _ _ hr7]) rfl ⟨_, _, _, by rw [HE.out.1], by rw [HTK.out.1, HTK.out.2, HE.out.2]; exact (HN7.out.far (grown_rowF w7 (w.heap.size + 1 + 1) _) (by omega)).mono (by omega), below_setRow HX7.out.below (by omega) _⟩
    · have HPL2 : Hid ((putE es c.f (fldC c)).length = es.length) := by show _ = _; rw [HPL.out, ha]; rfl
      have hrn : ¬ r < 0 := by omega
      clear ha HAN HPL
      have HE : Hid (takeC ks ps es c = 0 ∧ takeE ks ps es c = putE es c.f (fldC c)) := by
        have h0 : decide (12 < (putE es c.f (fldC c)).length) = false := by rw [HPL2.out]; simp; omega
        show _ ∧ _
        rw [HC.out.1, HC.out.2, h0]; exact ⟨rfl, rfl⟩
      go_wp2_with fail
      refine (HGO.out _ HX5.out HNL.out hle5).mono ?_
      rintro e w6 ⟨z', rfl, hN6, hX6⟩
      have HX6 : Hid (Blk3 w w6 (.cells #[.slice ak ks.length ck, .slice ap ps.length cp, .slice ae es.length ce] 39) (.cells #[.string c.f, .int .i64 c.what, .int .i64 c.num, .string c.v] 43) (.cells #[.slice none 0 0, .slice none 0 0, .slice none 0 0] 39)) := hX6
      have HN6 : Hid (BookAt w6 (.slice a1 ks.length c1) (.slice a2 ps.length c2) z' ks ps (putE es c.f (fldC c))) := hN6.at
      obtain ⟨-, -, -, -, a4, c4, -, -, rfl⟩ := hN6.slices
      clear hX6 hN6
      go_wp2_with fail
      refine (specL3Copy_any _ _ _ ks ps (putE es c.f (fldC c)) _ HN6.out SB.out.k SB.out.p (by have := HPS.out.1; omega) HPS.out.2).mono ?_
      rintro e w7 ⟨x, y, z, rfl, hN7, hb7⟩
      obtain ⟨b1, d1, b2, d2, b3, d3, rfl, rfl, rfl⟩ := hN7.slices
      have HX7 : Hid (Blk3 w w7 (.cells #[.slice ak ks.length ck, .slice ap ps.length cp, .slice ae es.length ce] 39) (.cells #[.string c.f, .int .i64 c.what, .int .i64 c.num, .string c.v] 43) (.cells #[.slice none 0 0, .slice none 0 0, .slice none 0 0] 39)) := HX6.out.call hb7
      have hz6 := HX6.out.z
      have HN7 := toHidC hN7
      have hr7 := HX7.out.b2
      clear hN7 hb7 HX6 HN6 hr5 HX5 HN5 HT5 HNL
      generalize putE es c.f (fldC c) = es' at *
      go_wp2_with (refine wpList_store_row rfl 39 _ _ rfl (w.heap.size + 1 + 1) #[.slice b1 ks.length d1, .slice b2 ps.length d2, .slice b3 es'.length d3] rfl rfl 39 _ hr7 (by kernel_rfl) rfl (by simp [Value.oneCell']) ?_)
      exact bodyPost_ret (v := .tuple #[.agg #[.slice b1 ks.length d1, .slice b2 ps.length d2, .slice b3 es'.length d3], .int .i64 0]) (by simp [results, Tryz.results8, go_sem, cell_setRow_same _ _ _ _ _ _ _ hr7]) rfl ⟨_, _, _, by rw [HE.out.1], by rw [HTK.out.1, HTK.out.2, HE.out.2]; exact (HN7.out.far (grown_rowF w7 (w.heap.size + 1 + 1) _) (by omega)).mono (by omega), below_setRow HX7.out.below (by omega) _⟩
end Go.Proofs.YtfjblenkcfdbiaaGreat

/-
  The specification: two books together.
-/
namespace Go.Proofs.YtfjblenkcfdbiaaGreat
open Go.RowKit
set_option linter.unusedSimpArgs false
set_option linter.unusedVariables false

set_option maxRecDepth 100000 in
set_option maxHeartbeats 12800000 in
theorem specMerge_any (vk vp ve uk up ue : Value) (ks ps ks' ps' : List Tri) (es es' : List Ent) (w : World) (hA : BookAt w vk vp ve ks ps es) (hB : BookAt w uk up ue ks' ps' es') (nA : BNames ks ps es) (nB : BNames ks' ps' es') (sA : BSmall ks ps es) (sB : BSmall ks' ps' es') (hszA : sumN (fun e => e.fs.length) es ≤ 1048576) (hszB : sumN (fun e => e.fs.length) es' ≤ 1048576) :
    Calls Tryz.prog 15 #[.agg #[vk, vp, ve], .agg #[uk, up, ue]] w fun e w' => ∃ x y z, e = .returned (.tuple #[.agg #[x, y, z], .int .i64 (mrgC ks ps ks' ps' es es')]) ∧ BookNew w.heap.size w' x y z (mrgT ks ps ks' ps' es es' ks) (mrgT ks ps ks' ps' es es' ps) (mrgE ks ps ks' ps' es es') ∧ Below w.heap.size w w' := by
  have HA : Hid (BookAt w vk vp ve ks ps es) := hA
  have HB : Hid (BookAt w uk up ue ks' ps' es') := hB
  have NN : Hid (BNames ks ps es ∧ BNames ks' ps' es') := ⟨nA, nB⟩
  have SS : Hid (BSmall ks ps es ∧ BSmall ks' ps' es') := ⟨sA, sB⟩
  obtain ⟨⟨ak, ck, rfl, -, -, -⟩, ⟨ap, cp, rfl, -, -, -⟩, ⟨ae, ce, rfl, -, -, -⟩⟩ := hA
  obtain ⟨⟨ak', ck', rfl, -, -, -⟩, ⟨ap', cp', rfl, -, -, -⟩, ⟨ae', ce', rfl, -, -, he3⟩⟩ := hB
  have HEB : Hid (∀ i e, es'[i]? = some e → ∃ b off, ae' = some ⟨b, off, none⟩ ∧ EntAt w b (off + i * 2) e) := he3
  clear nA nB sA sB he3

  go_enter Tryz.func15, Tryz.ntmps15
  have HX0 : Hid (Blk3 w _ _ _ _) := Blk3.start w (.cells #[.slice ak ks.length ck, .slice ap ps.length cp, .slice ae es.length ce] 39) (.cells #[.slice ak' ks'.length ck', .slice ap' ps'.length cp', .slice ae' es'.length ce'] 39) (.cells #[.slice none 0 0, .slice none 0 0, .slice none 0 0] 39)
  go_wp2_with fail
  refine (specBookOk_any _ _ _ ks ps es _ (HA.out.keep HX0.out.below) NN.out.1 SS.out.1).mono ?_
  rintro e w1 ⟨rfl, hb1⟩
  have HX1 : Hid (Blk3 w w1 (.cells #[.slice ak ks.length ck, .slice ap ps.length cp, .slice ae es.length ce] 39) (.cells #[.slice ak' ks'.length ck', .slice ap' ps'.length cp', .slice ae' es'.length ce'] 39) (.cells #[.slice none 0 0, .slice none 0 0, .slice none 0 0] 39)) := HX0.out.call hb1
  clear HX0 hb1
  obtain ⟨y0, y1, y2⟩ : w1.cell? ⟨w.heap.size, 0, none⟩ = some (.slice ak ks.length ck) ∧ w1.cell? ⟨w.heap.size, 1, none⟩ = some (.slice ap ps.length cp) ∧ w1.cell? ⟨w.heap.size, 2, none⟩ = some (.slice ae es.length ce) := by simp [World.cell?, HX1.out.b0]
  obtain ⟨z0, z1, z2⟩ : w1.cell? ⟨w.heap.size + 1, 0, none⟩ = some (.slice ak' ks'.length ck') ∧ w1.cell? ⟨w.heap.size + 1, 1, none⟩ = some (.slice ap' ps'.length cp') ∧ w1.cell? ⟨w.heap.size + 1, 2, none⟩ = some (.slice ae' es'.length ce') := by simp [World.cell?, HX1.out.b1]
  have hq1 := HX1.out.z
  have HNO : Hid (mrgOk ks ps ks' ps' es es' = false → mrgT ks ps ks' ps' es es' ks = [] ∧ mrgT ks ps ks' ps' es es' ps = [] ∧ mrgE ks ps ks' ps' es es' = []) := fun h => by
    unfold mrgT mrgE; rw [h]; exact ⟨rfl, rfl, rfl⟩
  cases hbb : bookB ks ps es
  · have HE : Hid (mrgC ks ps ks' ps' es es' = 1 ∧ mrgT ks ps ks' ps' es es' ks = [] ∧ mrgT ks ps ks' ps' es es' ps = [] ∧ mrgE ks ps ks' ps' es es' = []) := ⟨by unfold mrgC; rw [hbb]; rfl, HNO.out (by unfold mrgOk; rw [hbb]; rfl)⟩
    clear hbb
    go_wp2_with (refine wpList_store_row rfl 39 _ _ rfl (w.heap.size + 1 + 1) #[.slice none 0 0, .slice none 0 0, .slice none 0 0] rfl rfl 39 _ HX1.out.b2 (by kernel_rfl) rfl (by simp [Value.oneCell']) ?_)
    exact bodyPost_ret (v := .tuple #[.agg #[.slice none 0 0, .slice none 0 0, .slice none 0 0], .int .i64 1]) (by simp [results, Tryz.results15, go_sem, cell_setRow_same _ _ _ _ _ _ _ HX1.out.b2]) rfl ⟨_, _, _, by rw [HE.out.1], by rw [HE.out.2.1, HE.out.2.2.1, HE.out.2.2.2]; exact BookNew.none _ _, below_setRow HX1.out.below (by omega) _⟩
  have HBB : Hid (bookB ks ps es = true) := hbb
  clear hbb
  go_wp2_with fail
  refine (specBookOk_any _ _ _ ks' ps' es' _ (HB.out.keep HX1.out.below) NN.out.2 SS.out.2).mono ?_
  rintro e w2 ⟨rfl, hb2⟩
  have HX2 : Hid (Blk3 w w2 (.cells #[.slice ak ks.length ck, .slice ap ps.length cp, .slice ae es.length ce] 39) (.cells #[.slice ak' ks'.length ck', .slice ap' ps'.length cp', .slice ae' es'.length ce'] 39) (.cells #[.slice none 0 0, .slice none 0 0, .slice none 0 0] 39)) := HX1.out.call hb2
  clear HX1 hb2 y0 y1 y2 z0 z1 z2
  obtain ⟨y0, y1, y2⟩ : w2.cell? ⟨w.heap.size, 0, none⟩ = some (.slice ak ks.length ck) ∧ w2.cell? ⟨w.heap.size, 1, none⟩ = some (.slice ap ps.length cp) ∧ w2.cell? ⟨w.heap.size, 2, none⟩ = some (.slice ae es.length ce) := by simp [World.cell?, HX2.out.b0]
  obtain ⟨z0, z1, z2⟩ : w2.cell? ⟨w.heap.size + 1, 0, none⟩ = some (.slice ak' ks'.length ck') ∧ w2.cell? ⟨w.heap.size + 1, 1, none⟩ = some (.slice ap' ps'.length cp') ∧ w2.cell? ⟨w.heap.size + 1, 2, none⟩ = some (.slice ae' es'.length ce') := by simp [World.cell?, HX2.out.b1]
  have hq2 := HX2.out.z
  cases hbb : bookB ks' ps' es'
  · have HE : Hid (mrgC ks ps ks' ps' es es' = 1 ∧ mrgT ks ps ks' ps' es es' ks = [] ∧ mrgT ks ps ks' ps' es es' ps = [] ∧ mrgE ks ps ks' ps' es es' = []) := ⟨by unfold mrgC; rw [HBB.out, hbb]; rfl, HNO.out (by unfold mrgOk; rw [HBB.out, hbb]; rfl)⟩
    clear hbb
    go_wp2_with (refine wpList_store_row rfl 39 _ _ rfl (w.heap.size + 1 + 1) #[.slice none 0 0, .slice none 0 0, .slice none 0 0] rfl rfl 39 _ HX2.out.b2 (by kernel_rfl) rfl (by simp [Value.oneCell']) ?_)
    exact bodyPost_ret (v := .tuple #[.agg #[.slice none 0 0, .slice none 0 0, .slice none 0 0], .int .i64 1]) (by simp [results, Tryz.results15, go_sem, cell_setRow_same _ _ _ _ _ _ _ HX2.out.b2]) rfl ⟨_, _, _, by rw [HE.out.1], by rw [HE.out.2.1, HE.out.2.2.1, HE.out.2.2.2]; exact BookNew.none _ _, below_setRow HX2.out.below (by omega) _⟩
  have HBC : Hid (bookB ks' ps' es' = true) := hbb
  clear hbb
  go_wp2_with fail
  refine (l3SameBase_any _ _ _ _ ks ps ks' ps' _ (HA.out.k.keep HX2.out.below) (HA.out.p.keep HX2.out.below) (HB.out.k.keep HX2.out.below) (HB.out.p.keep HX2.out.below) SS.out.1.k SS.out.1.p).mono ?_
  rintro e w3 ⟨rfl, hb3⟩
  have HX3 : Hid (Blk3 w w3 (.cells #[.slice ak ks.length ck, .slice ap ps.length cp, .slice ae es.length ce] 39) (.cells #[.slice ak' ks'.length ck', .slice ap' ps'.length cp', .slice ae' es'.length ce'] 39) (.cells #[.slice none 0 0, .slice none 0 0, .slice none 0 0] 39)) := HX2.out.call hb3
  clear HX2 hb3 y0 y1 y2 z0 z1 z2
  obtain ⟨y0, y1, y2⟩ : w3.cell? ⟨w.heap.size, 0, none⟩ = some (.slice ak ks.length ck) ∧ w3.cell? ⟨w.heap.size, 1, none⟩ = some (.slice ap ps.length cp) ∧ w3.cell? ⟨w.heap.size, 2, none⟩ = some (.slice ae es.length ce) := by simp [World.cell?, HX3.out.b0]
  obtain ⟨z0, z1, z2⟩ : w3.cell? ⟨w.heap.size + 1, 0, none⟩ = some (.slice ak' ks'.length ck') ∧ w3.cell? ⟨w.heap.size + 1, 1, none⟩ = some (.slice ap' ps'.length cp') ∧ w3.cell? ⟨w.heap.size + 1, 2, none⟩ = some (.slice ae' es'.length ce') := by simp [World.cell?, HX3.out.b1]
  have hq3 := HX3.out.z
  cases hsm : sameBs ks ks' ps ps'
  · have HE : Hid (mrgC ks ps ks' ps' es es' = 2 ∧ mrgT ks ps ks' ps' es es' ks = [] ∧ mrgT ks ps ks' ps' es es' ps = [] ∧ mrgE ks ps ks' ps' es es' = []) := ⟨by unfold mrgC; rw [HBB.out, HBC.out, hsm]; rfl, HNO.out (by unfold mrgOk; rw [HBB.out, HBC.out, hsm]; rfl)⟩
    clear hsm
    go_wp2_with (refine wpList_store_row rfl 39 _ _ rfl (w.heap.size + 1 + 1) #[.slice none 0 0, .slice none 0 0, .slice none 0 0] rfl rfl 39 _ HX3.out.b2 (by kernel_rfl) rfl (by simp [Value.oneCell']) ?_)
    exact bodyPost_ret (v := .tuple #[.agg #[.slice none 0 0, .slice none 0 0, .slice none 0 0], .int .i64 2]) (by simp [results, Tryz.results15, go_sem, cell_setRow_same _ _ _ _ _ _ _ HX3.out.b2]) rfl ⟨_, _, _, by rw [HE.out.1], by rw [HE.out.2.1, HE.out.2.2.1, HE.out.2.2.2]; exact BookNew.none _ _, below_setRow HX3.out.below (by omega) _⟩
  have HSM : Hid (sameBs ks ks' ps ps' = true) := hsm
  clear hsm
  have HYES : Hid (¬ 12 < (putEs es (chgsOf es')).length → mrgC ks ps ks' ps' es es' = 0 ∧ mrgT ks ps ks' ps' es es' ks = ks ∧ mrgT ks ps ks' ps' es es' ps = ps ∧ mrgE ks ps ks' ps' es es' = putEs es (chgsOf es')) := fun h => by
    have h0 : decide (12 < (putEs es (chgsOf es')).length) = false := by simpa using h
    have h1 : mrgOk ks ps ks' ps' es es' = true := by unfold mrgOk; rw [HBB.out, HBC.out, HSM.out, h0]; rfl
    refine ⟨by unfold mrgC; rw [HBB.out, HBC.out, HSM.out, h0]; rfl, by unfold mrgT; rw [h1]; rfl, by unfold mrgT; rw [h1]; rfl, by unfold mrgE; rw [h1]; rfl⟩
  have HNY : Hid (12 < (putEs es (chgsOf es')).length → mrgC ks ps ks' ps' es es' = 3 ∧ mrgT ks ps ks' ps' es es' ks = [] ∧ mrgT ks ps ks' ps' es es' ps = [] ∧ mrgE ks ps ks' ps' es es' = []) := fun h => by
    have h0 : decide (12 < (putEs es (chgsOf es')).length) = true := by simpa using h
    exact ⟨by unfold mrgC; rw [HBB.out, HBC.out, HSM.out, h0]; rfl, HNO.out (by unfold mrgOk; rw [HBB.out, HBC.out, HSM.out, h0]; rfl)⟩
  have hleB : es'.length ≤ 1048576 := SS.out.2.e
  have HL60 : Hid ((chgsOf es').length ≤ 60) := by
    show _ ≤ _
    rw [chgsOf_len]
    have h5 := book_fs5 HBC.out
    have h12 := book_len HBC.out
    have := sumN_le_mul (fun e : Ent => e.fs.length) 5 es' h5
    have := Nat.mul_le_mul_right 5 h12
    omega
  have HSM2 : Hid (∀ cs : List Chg, cs.length ≤ 60 → (putEs es cs).length ≤ 72 ∧ ∀ e ∈ putEs es cs, e.fs.length ≤ 65) := fun cs hc => by
    have h1 := putEs_len cs es
    have h2 := book_len HBB.out
    exact ⟨by omega, fun e he => by have := putEs_fs cs es 5 (book_fs5 HBB.out) e he; omega⟩
  have HSR : Hid (∀ cs : List Chg, (putEs es cs).Pairwise fun a b => blS a.name b.name = true) := fun cs => putEs_sorted cs es (book_names HBB.out)
  have HTL : Hid (∀ i, (chgsOf (es'.take i)).length ≤ 60) := fun i => by
    have h0 := HL60.out
    rw [chgsOf_len] at h0 ⊢
    exact Nat.le_trans (sumN_take_le _ es' i) h0
  go_wp2_with fail
  refine (specL3Copy_any _ _ _ ks ps es _ (HA.out.keep HX3.out.below) SS.out.1.k SS.out.1.p SS.out.1.e SS.out.1.f).mono ?_
  rintro e w4 ⟨x, y, z, rfl, hN4, hb4⟩
  obtain ⟨a1, c1, a2, c2, za, zc, rfl, rfl, rfl⟩ := hN4.slices
  have hz4 : w3.heap.size ≤ w4.heap.size := hb4.size
  have hal : Below w4.heap.size w4 (w4.alloc (.cells #[.slice a1 ks.length c1, .slice a2 ps.length c2, .slice za es.length zc] 39)) := (Below.refl _ _).alloc (Nat.le_refl _) _
  have HI0 : Hid (Blk3 w (w4.alloc (.cells #[.slice a1 ks.length c1, .slice a2 ps.length c2, .slice za es.length zc] 39)) (.cells #[.slice ak ks.length ck, .slice ap ps.length cp, .slice ae es.length ce] 39) (.cells #[.slice ak' ks'.length ck', .slice ap' ps'.length cp', .slice ae' es'.length ce'] 39) (.cells #[.slice none 0 0, .slice none 0 0, .slice none 0 0] 39) ∧ (w4.alloc (.cells #[.slice a1 ks.length c1, .slice a2 ps.length c2, .slice za es.length zc] 39)).heap[w4.heap.size]? = some (.cells #[.slice a1 ks.length c1, .slice a2 ps.length c2, .slice za es.length zc] 39 (0, 0)) ∧ BookNew (w3.heap.size + 1) (w4.alloc (.cells #[.slice a1 ks.length c1, .slice a2 ps.length c2, .slice za es.length zc] 39)) (.slice a1 ks.length c1) (.slice a2 ps.length c2) (.slice za es.length zc) ks ps es) := ⟨(HX3.out.call hb4).call hal, heap_newF w4 _, (hN4.keep hal).mono (by omega)⟩
  have hlo4 : w3.heap.size + 1 ≤ (w4.alloc (.cells #[.slice a1 ks.length c1, .slice a2 ps.length c2, .slice za es.length zc] 39)).heap.size := by rw [World.size_alloc]; omega
  clear hN4 hb4 hal HX3 y0 y1 y2 z0 z1 z2
  go_wp2
  generalize w4.alloc (.cells #[.slice a1 ks.length c1, .slice a2 ps.length c2, .slice za es.length zc] 39) = w5 at *
  have hXlo : w3.heap.size ≤ w4.heap.size := hz4
  generalize w4.heap.size = X at *
  clear hz4
  go_loopw [7, 8] (fun s7 _ wr => ∃ (i : Nat) (za : Option Addr) (zc : Nat), i ≤ es'.length ∧ s7 = .int .i64 i ∧ w3.heap.size + 1 ≤ wr.heap.size ∧ Hid (Blk3 w wr (.cells #[.slice ak ks.length ck, .slice ap ps.length cp, .slice ae es.length ce] 39) (.cells #[.slice ak' ks'.length ck', .slice ap' ps'.length cp', .slice ae' es'.length ce'] 39) (.cells #[.slice none 0 0, .slice none 0 0, .slice none 0 0] 39) ∧ wr.heap[X]? = some (.cells #[.slice a1 ks.length c1, .slice a2 ps.length c2, .slice za (putEs es (chgsOf (es'.take i))).length zc] 39 (0, 0)) ∧ BookNew (w3.heap.size + 1) wr (.slice a1 ks.length c1) (.slice a2 ps.length c2) (.slice za (putEs es (chgsOf (es'.take i))).length zc) ks ps (putEs es (chgsOf (es'.take i))))) (fun s7 _ _ => es'.length - (intOf s7).toNat)
  case atStart => exact ⟨0, za, zc, Nat.zero_le _, rfl, hlo4, HI0.out⟩
  case round =>
    clear HI0 hlo4
    obtain ⟨i, za, zc, hi, rfl, hlo4, HI⟩ := hrel
    obtain ⟨z0, z1, z2⟩ := three_cellsM HI.out.1.b1
    by_cases hlt : i < es'.length
    · obtain ⟨b, off, rfl, hc⟩ := HEB.out i _ (eat_get hlt)
      obtain ⟨fv, d0, d1, hfl⟩ := hc
      have HD : Hid (w.cell? ⟨b, off + i * 2, none⟩ = some (.string (eat es' i).name) ∧ w.cell? ⟨b, off + i * 2 + 1, none⟩ = some fv) := ⟨d0, d1⟩
      have HK : Hid (chgsOf (es'.take (i + 1)) = chgsOf (es'.take i) ++ (eat es' i).fs.map (chgOf (eat es' i).name)) := chgsOf_take es' i _ (eat_get hlt)
      have HKL : Hid ((chgsOf (es'.take (i + 1))).length ≤ 60) := HTL.out (i + 1)
      obtain ⟨fa, fc, rfl, hfc, hfm, hfe⟩ := hfl
      unfold maxLen at hfm
      have HFE : Hid (∀ i' f, (eat es' i).fs[i']? = some f → ∃ b off, fa = some ⟨b, off, none⟩ ∧ FldAt w b (off + i' * 3) f) := hfe
      clear hfe d0 d1
      generalize eat es' i = t at *
      obtain ⟨nm, fs⟩ := t
      dsimp only at *
      have hi0 : (0 : Int) ≤ (i : Int) := by omega
      have hi1 : (i : Int) < (es'.length : Int) := by omega
      generalize hcs : chgsOf (es'.take i) = cs at *
      clear hcs
      go_wp2
      clear z0 z1 z2
      go_loopw [8] (fun s8 wr => ∃ (j : Nat) (za : Option Addr) (zc : Nat), j ≤ fs.length ∧ s8 = .int .i64 j ∧ w3.heap.size + 1 ≤ wr.heap.size ∧ Hid (Blk3 w wr (.cells #[.slice ak ks.length ck, .slice ap ps.length cp, .slice ae es.length ce] 39) (.cells #[.slice ak' ks'.length ck', .slice ap' ps'.length cp', .slice (some ⟨b, off, none⟩) es'.length ce'] 39) (.cells #[.slice none 0 0, .slice none 0 0, .slice none 0 0] 39) ∧ wr.heap[X]? = some (.cells #[.slice a1 ks.length c1, .slice a2 ps.length c2, .slice za (putEs es (cs ++ (fs.take j).map (chgOf nm))).length zc] 39 (0, 0)) ∧ BookNew (w3.heap.size + 1) wr (.slice a1 ks.length c1) (.slice a2 ps.length c2) (.slice za (putEs es (cs ++ (fs.take j).map (chgOf nm))).length zc) ks ps (putEs es (cs ++ (fs.take j).map (chgOf nm))))) (fun s8 _ => fs.length - (intOf s8).toNat)
      case atStart => exact ⟨0, za, zc, Nat.zero_le _, rfl, hlo4, by have h := HI.out; rw [show cs = cs ++ (fs.take 0).map (chgOf nm) by simp] at h; exact h⟩
      case round =>
        clear HI hlo4
        obtain ⟨j, za, zc, hj, rfl, hlo4, HI⟩ := hrel
        obtain ⟨z0, z1, z2⟩ := three_cellsM HI.out.1.b1
        have e0 := cell_keep HI.out.1.below (Nat.le_refl _) HD.out.1
        have e1 := cell_keep HI.out.1.below (Nat.le_refl _) HD.out.2
        by_cases hjl : j < fs.length
        · obtain ⟨fb, fo, rfl, hf⟩ := HFE.out j _ (fat_get hjl)
          have HF : Hid (FldAt w fb (fo + j * 3) (fat fs j)) := hf
          have HJ : Hid (putEs es (cs ++ (fs.take (j + 1)).map (chgOf nm)) = putE (putEs es (cs ++ (fs.take j).map (chgOf nm))) nm (fat fs j)) := by
            have h1 : fs[j] = fat fs j := by simp [fat, hjl]
            show _ = _
            rw [List.take_succ_eq_append_getElem hjl, List.map_append, h1, ← List.append_assoc]
            exact putEs_snoc es _ (chgOf nm (fat fs j))
          have HJL : Hid ((cs ++ (fs.take j).map (chgOf nm)).length ≤ 60) := by
            have h1 := HKL.out
            rw [HK.out] at h1
            show _ ≤ _
            simp at h1 ⊢
            omega
          have hEs := HSM2.out _ HJL.out
          have HES : Hid ((putEs es (cs ++ (fs.take j).map (chgOf nm))).length ≤ 72 ∧ ∀ e ∈ putEs es (cs ++ (fs.take j).map (chgOf nm)), e.fs.length ≤ 65) := hEs
          have HEP := toHidC (HSR.out (cs ++ (fs.take j).map (chgOf nm)))
          clear hEs HJL
          generalize putEs es (cs ++ (fs.take j).map (chgOf nm)) = E at *
          generalize fat fs j = f at *
          clear hf
          have hj0 : (0 : Int) ≤ (j : Int) := by omega
          have hj1 : (j : Int) < (fs.length : Int) := by omega
          go_wp2
          clear z0 z1 z2 e0 e1
          refine wp_region_noPanic ?_
          have HSS : Hid (∀ wx : World, Blk3 w wx (.cells #[.slice ak ks.length ck, .slice ap ps.length cp, .slice ae es.length ce] 39) (.cells #[.slice ak' ks'.length ck', .slice ap' ps'.length cp', .slice (some ⟨b, off, none⟩) es'.length ce'] 39) (.cells #[.slice none 0 0, .slice none 0 0, .slice none 0 0] 39) → wx.heap[X]? = some (.cells #[.slice a1 ks.length c1, .slice a2 ps.length c2, .slice za E.length zc] 39 (0, 0)) → ((wx.cell? ⟨X, 0, none⟩ = some (.slice a1 ks.length c1) ∧ wx.cell? ⟨X, 1, none⟩ = some (.slice a2 ps.length c2) ∧ wx.cell? ⟨X, 2, none⟩ = some (.slice za E.length zc)) ∧ wx.cell? ⟨w.heap.size + 1, 2, none⟩ = some (.slice (some ⟨b, off, none⟩) es'.length ce') ∧ wx.cell? ⟨b, off + i * 2, none⟩ = some (.string nm) ∧ wx.cell? ⟨b, off + i * 2 + 1, none⟩ = some (.slice (some ⟨fb, fo, none⟩) fs.length fc) ∧ wx.cell? ⟨fb, fo + j * 3, none⟩ = some (.int .i64 f.what) ∧ wx.cell? ⟨fb, fo + j * 3 + 1, none⟩ = some (.int .i64 f.num) ∧ wx.cell? ⟨fb, fo + j * 3 + 2, none⟩ = some (.string f.v))) := fun wx hx hX => ⟨three_cellsM hX, (three_cellsM hx.b1).2.2, cell_keep hx.below (Nat.le_refl _) HD.out.1, cell_keep hx.below (Nat.le_refl _) HD.out.2, (HF.out.keep hx.below (Nat.le_refl _)).1, (HF.out.keep hx.below (Nat.le_refl _)).2.1, (HF.out.keep hx.below (Nat.le_refl _)).2.2⟩
          refine wp_region_till (S := fun w' => (w'.cell? ⟨X, 0, none⟩ = some (.slice a1 ks.length c1) ∧ w'.cell? ⟨X, 1, none⟩ = some (.slice a2 ps.length c2) ∧ w'.cell? ⟨X, 2, none⟩ = some (.slice za E.length zc)) ∧ w'.cell? ⟨w.heap.size + 1, 2, none⟩ = some (.slice (some ⟨b, off, none⟩) es'.length ce') ∧ w'.cell? ⟨b, off + i * 2, none⟩ = some (.string nm) ∧ w'.cell? ⟨b, off + i * 2 + 1, none⟩ = some (.slice (some ⟨fb, fo, none⟩) fs.length fc) ∧ w'.cell? ⟨fb, fo + j * 3, none⟩ = some (.int .i64 f.what) ∧ w'.cell? ⟨fb, fo + j * 3 + 1, none⟩ = some (.int .i64 f.num) ∧ w'.cell? ⟨fb, fo + j * 3 + 2, none⟩ = some (.string f.v)) 17 (by kernel_rfl) ?_ (fun hHeld => ?_)
          · exact HSS.out _ (HI.out.1.call (Below.refl _ _).drew) HI.out.2.1
          have HID : Hid (Blk3 w wr.drew (.cells #[.slice ak ks.length ck, .slice ap ps.length cp, .slice ae es.length ce] 39) (.cells #[.slice ak' ks'.length ck', .slice ap' ps'.length cp', .slice (some ⟨b, off, none⟩) es'.length ce'] 39) (.cells #[.slice none 0 0, .slice none 0 0, .slice none 0 0] 39) ∧ wr.drew.heap[X]? = some (.cells #[.slice a1 ks.length c1, .slice a2 ps.length c2, .slice za E.length zc] 39 (0, 0)) ∧ BookNew (w3.heap.size + 1) wr.drew (.slice a1 ks.length c1) (.slice a2 ps.length c2) (.slice za E.length zc) ks ps E ∧ w3.heap.size + 1 ≤ wr.drew.heap.size) := ⟨HI.out.1.call (Below.refl _ _).drew, HI.out.2.1, HI.out.2.2.keep (Below.refl _ _).drew, hlo4⟩
          generalize wr.drew = W0 at *
          clear HI
          refine wpTill_take (i := 0) (v := ?_) rfl (by kernel_rfl) (by kernel_rfl) (by kernel_rfl) (by kernel_rfl) (fun _ _ _ h => h) (Or.inl ⟨by rfl, ?_⟩) (by assumption) ?_
          rotate_left
          · intro w hSw; (try dsimp only at hSw); go_simp; try with_reducible rfl
          simp only [Act.put, List.setIfInBounds_toArray, List.set_cons_zero, List.set_cons_succ, List.getElem_toArray, List.getElem_cons_succ, List.getElem_cons_zero]
          refine wpTill_take (i := 1) (v := ?_) rfl (by kernel_rfl) (by kernel_rfl) (by kernel_rfl) (by kernel_rfl) (fun _ _ _ h => h) (Or.inl ⟨by rfl, ?_⟩) (by assumption) ?_
          rotate_left
          · intro w hSw; (try dsimp only at hSw); go_simp; try with_reducible rfl
          simp only [Act.put, List.setIfInBounds_toArray, List.set_cons_zero, List.set_cons_succ, List.getElem_toArray, List.getElem_cons_succ, List.getElem_cons_zero]
          refine wpTill_take (i := 2) (v := ?_) rfl (by kernel_rfl) (by kernel_rfl) (by kernel_rfl) (by kernel_rfl) (fun _ _ _ h => h) (Or.inl ⟨by rfl, ?_⟩) (by assumption) ?_
          rotate_left
          · intro w hSw; (try dsimp only at hSw); go_simp; try with_reducible rfl
          simp only [Act.put, List.setIfInBounds_toArray, List.set_cons_zero, List.set_cons_succ, List.getElem_toArray, List.getElem_cons_succ, List.getElem_cons_zero]
          refine wpTill_take (i := 3) (v := ?_) rfl (by kernel_rfl) (by kernel_rfl) (by kernel_rfl) (by kernel_rfl) (fun _ _ _ h => h) (Or.inl ⟨by rfl, ?_⟩) (by assumption) ?_
          rotate_left
          · intro w hSw; (try dsimp only at hSw); go_simp; try with_reducible rfl
          simp only [Act.put, List.setIfInBounds_toArray, List.set_cons_zero, List.set_cons_succ, List.getElem_toArray, List.getElem_cons_succ, List.getElem_cons_zero]
          refine wpTill_take (i := 4) (v := ?_) rfl (by kernel_rfl) (by kernel_rfl) (by kernel_rfl) (by kernel_rfl) (fun _ _ _ h => h) (Or.inl ⟨by rfl, ?_⟩) (by assumption) ?_
          rotate_left
          · intro w hSw; (try dsimp only at hSw); go_simp; try with_reducible rfl
          simp only [Act.put, List.setIfInBounds_toArray, List.set_cons_zero, List.set_cons_succ, List.getElem_toArray, List.getElem_cons_succ, List.getElem_cons_zero]
          refine wpTill_take (i := 5) (v := ?_) rfl (by kernel_rfl) (by kernel_rfl) (by kernel_rfl) (by kernel_rfl) (fun _ _ _ h => h) (Or.inl ⟨by rfl, ?_⟩) (by assumption) ?_
          rotate_left
          · intro w hSw; (try dsimp only at hSw); go_simp; try with_reducible rfl
          simp only [Act.put, List.setIfInBounds_toArray, List.set_cons_zero, List.set_cons_succ, List.getElem_toArray, List.getElem_cons_succ, List.getElem_cons_zero]
          refine wpTill_take (i := 6) (v := ?_) rfl (by kernel_rfl) (by kernel_rfl) (by kernel_rfl) (by kernel_rfl) (fun _ _ _ h => h) (Or.inl ⟨by rfl, ?_⟩) (by assumption) ?_
          rotate_left
          · intro w hSw; (try dsimp only at hSw); go_simp; try with_reducible rfl
          simp only [Act.put, List.setIfInBounds_toArray, List.set_cons_zero, List.set_cons_succ, List.getElem_toArray, List.getElem_cons_succ, List.getElem_cons_zero]
          refine wpTill_take (i := 7) (v := ?_) rfl (by kernel_rfl) (by kernel_rfl) (by kernel_rfl) (by kernel_rfl) (fun _ _ _ h => h) (Or.inl ⟨by rfl, ?_⟩) (by assumption) ?_
          rotate_left
          · intro w hSw; (try dsimp only at hSw); go_simp; try with_reducible rfl
          simp only [Act.put, List.setIfInBounds_toArray, List.set_cons_zero, List.set_cons_succ, List.getElem_toArray, List.getElem_cons_succ, List.getElem_cons_zero]
          refine wpTill_take (i := 8) (v := ?_) rfl (by kernel_rfl) (by kernel_rfl) (by kernel_rfl) (by kernel_rfl) (fun _ _ _ h => h) (Or.inl ⟨by rfl, ?_⟩) (by assumption) ?_
          rotate_left
          · intro w hSw; (try dsimp only at hSw); go_simp; try with_reducible rfl
          simp only [Act.put, List.setIfInBounds_toArray, List.set_cons_zero, List.set_cons_succ, List.getElem_toArray, List.getElem_cons_succ, List.getElem_cons_zero]
          refine wpTill_take (i := 9) (v := ?_) rfl (by kernel_rfl) (by kernel_rfl) (by kernel_rfl) (by kernel_rfl) (fun _ _ _ h => h) (Or.inl ⟨by rfl, ?_⟩) (by assumption) ?_
          rotate_left
          · intro w hSw; (try dsimp only at hSw); go_simp; try with_reducible rfl
          simp only [Act.put, List.setIfInBounds_toArray, List.set_cons_zero, List.set_cons_succ, List.getElem_toArray, List.getElem_cons_succ, List.getElem_cons_zero]
          refine wpTill_take (i := 10) (v := ?_) rfl (by kernel_rfl) (by kernel_rfl) (by kernel_rfl) (by kernel_rfl) (fun _ _ _ h => h) (Or.inl ⟨by rfl, ?_⟩) (by assumption) ?_
          rotate_left
          · intro w hSw; (try dsimp only at hSw); go_simp; try with_reducible rfl
          simp only [Act.put, List.setIfInBounds_toArray, List.set_cons_zero, List.set_cons_succ, List.getElem_toArray, List.getElem_cons_succ, List.getElem_cons_zero]
          refine wpTill_take (i := 11) (v := ?_) rfl (by kernel_rfl) (by kernel_rfl) (by kernel_rfl) (by kernel_rfl) (fun _ _ _ h => h) (Or.inl ⟨by rfl, ?_⟩) (by assumption) ?_
          rotate_left
          · intro w hSw; (try dsimp only at hSw); go_simp; try with_reducible rfl
          simp only [Act.put, List.setIfInBounds_toArray, List.set_cons_zero, List.set_cons_succ, List.getElem_toArray, List.getElem_cons_succ, List.getElem_cons_zero]
          refine wpTill_take (i := 12) (v := ?_) rfl (by kernel_rfl) (by kernel_rfl) (by kernel_rfl) (by kernel_rfl) (fun _ _ _ h => h) (Or.inl ⟨by rfl, ?_⟩) (by assumption) ?_
          rotate_left
          · intro w hSw; (try dsimp only at hSw); go_simp; try with_reducible rfl
          simp only [Act.put, List.setIfInBounds_toArray, List.set_cons_zero, List.set_cons_succ, List.getElem_toArray, List.getElem_cons_succ, List.getElem_cons_zero]
          refine wpTill_take (i := 13) (v := ?_) rfl (by kernel_rfl) (by kernel_rfl) (by kernel_rfl) (by kernel_rfl) (fun _ _ _ h => h) (Or.inl ⟨by rfl, ?_⟩) (by assumption) ?_
          rotate_left
          · intro w hSw; (try dsimp only at hSw); go_simp; try with_reducible rfl
          simp only [Act.put, List.setIfInBounds_toArray, List.set_cons_zero, List.set_cons_succ, List.getElem_toArray, List.getElem_cons_succ, List.getElem_cons_zero]
          refine wpTill_take (i := 14) (v := ?_) rfl (by kernel_rfl) (by kernel_rfl) (by kernel_rfl) (by kernel_rfl) (fun _ _ _ h => h) (Or.inl ⟨by rfl, ?_⟩) (by assumption) ?_
          rotate_left
          · intro w hSw; (try dsimp only at hSw); go_simp; try with_reducible rfl
          simp only [Act.put, List.setIfInBounds_toArray, List.set_cons_zero, List.set_cons_succ, List.getElem_toArray, List.getElem_cons_succ, List.getElem_cons_zero]
          refine wpTill_take (i := 15) (v := ?_) rfl (by kernel_rfl) (by kernel_rfl) (by kernel_rfl) (by kernel_rfl) (fun _ _ _ h => h) (Or.inl ⟨by rfl, ?_⟩) (by assumption) ?_
          rotate_left
          · intro w hSw; (try dsimp only at hSw); go_simp; try with_reducible rfl
          simp only [Act.put, List.setIfInBounds_toArray, List.set_cons_zero, List.set_cons_succ, List.getElem_toArray, List.getElem_cons_succ, List.getElem_cons_zero]
          clear hHeld
          refine wpTill_ready (rs := [16]) (by kernel_rfl) (by simp) ?_
          refine AllReadyT.cons rfl (fun K hK => ?_) AllReadyT.nil
          go_simp
          refine (l3Put_any _ _ _ ks ps E nm f (w3.heap.size + 1) _ HID.out.2.2.1 HID.out.2.2.2 HEP.out (by have := HES.out.1; omega) (fun e he => by have := HES.out.2 e he; omega)).mono ?_
          rintro e W1 ⟨z', rfl, hN1, hb1, hx1⟩
          have HI1 : Hid (Blk3 w W1 (.cells #[.slice ak ks.length ck, .slice ap ps.length cp, .slice ae es.length ce] 39) (.cells #[.slice ak' ks'.length ck', .slice ap' ps'.length cp', .slice (some ⟨b, off, none⟩) es'.length ce'] 39) (.cells #[.slice none 0 0, .slice none 0 0, .slice none 0 0] 39) ∧ W1.heap[X]? = some (.cells #[.slice a1 ks.length c1, .slice a2 ps.length c2, .slice za E.length zc] 39 (0, 0))) := ⟨HID.out.1.low hb1 (by omega), hx1 X _ HID.out.2.1⟩
          have HN1 := toHidC hN1
          obtain ⟨-, -, -, -, va, vc, -, -, rfl⟩ := hN1.slices
          have hsz1 : w3.heap.size + 1 ≤ W1.heap.size := Nat.le_trans HID.out.2.2.2 hb1.size
          refine hK.out _ _ (.inr (HSS.out _ HI1.out.1 HI1.out.2)) ?_
          clear hK K hN1 hb1 hx1 HID
          have hX1 := HI1.out.2
          refine wpTill_ready (rs := [17]) (by kernel_rfl) (by simp) ?_
          refine AllReadyT.cons rfl (fun K hK => ?_) AllReadyT.nil
          refine step_store_rowC rfl 39 _ _ rfl X #[.slice a1 ks.length c1, .slice a2 ps.length c2, .slice va (putE E nm f).length vc] rfl rfl 39 _ hX1 (by kernel_rfl) rfl (by simp [Value.oneCell']) ?_
          refine hK.out _ _ (.inl rfl) ?_
          clear hK K
          refine wpTill_done (by kernel_rfl) ?_ _
          refine NoPanic.normal ?_
          have HFN : Hid (Blk3 w (W1.setRow X #[.slice a1 ks.length c1, .slice a2 ps.length c2, .slice va (putE E nm f).length vc]) (.cells #[.slice ak ks.length ck, .slice ap ps.length cp, .slice ae es.length ce] 39) (.cells #[.slice ak' ks'.length ck', .slice ap' ps'.length cp', .slice (some ⟨b, off, none⟩) es'.length ce'] 39) (.cells #[.slice none 0 0, .slice none 0 0, .slice none 0 0] 39) ∧ (W1.setRow X #[.slice a1 ks.length c1, .slice a2 ps.length c2, .slice va (putE E nm f).length vc]).heap[X]? = some (.cells #[.slice a1 ks.length c1, .slice a2 ps.length c2, .slice va (putE E nm f).length vc] 39 (0, 0)) ∧ BookNew (w3.heap.size + 1) (W1.setRow X #[.slice a1 ks.length c1, .slice a2 ps.length c2, .slice va (putE E nm f).length vc]) (.slice a1 ks.length c1) (.slice a2 ps.length c2) (.slice va (putE E nm f).length vc) ks ps (putE E nm f)) := ⟨HI1.out.1.low (below_setRow (Below.refl w3.heap.size W1) hXlo _) (by omega), setRow_heap _ _ _ _ _ _ hX1, HN1.out.box hX1 (grown_rowF W1 X _)⟩
          clear hX1 HI1 HN1
          go_wp2
          exact ⟨⟨j + 1, va, vc, by omega, by go_num, by simpa using hsz1, by rw [HJ.out]; exact HFN.out⟩, by simp [intOf]; omega⟩
        · have HI2 : Hid (Blk3 w wr (.cells #[.slice ak ks.length ck, .slice ap ps.length cp, .slice ae es.length ce] 39) (.cells #[.slice ak' ks'.length ck', .slice ap' ps'.length cp', .slice (some ⟨b, off, none⟩) es'.length ce'] 39) (.cells #[.slice none 0 0, .slice none 0 0, .slice none 0 0] 39) ∧ wr.heap[X]? = some (.cells #[.slice a1 ks.length c1, .slice a2 ps.length c2, .slice za (putEs es (chgsOf (es'.take (i + 1)))).length zc] 39 (0, 0)) ∧ BookNew (w3.heap.size + 1) wr (.slice a1 ks.length c1) (.slice a2 ps.length c2) (.slice za (putEs es (chgsOf (es'.take (i + 1)))).length zc) ks ps (putEs es (chgsOf (es'.take (i + 1))))) := by
            have h := HI.out
            rw [List.take_of_length_le (show fs.length ≤ j by omega), ← HK.out] at h
            exact h
          go_wp2
          exact ⟨⟨i + 1, za, zc, by omega, by go_num, hlo4, HI2.out⟩, by simp [intOf]; omega⟩
    · have HI2 : Hid (Blk3 w wr (.cells #[.slice ak ks.length ck, .slice ap ps.length cp, .slice ae es.length ce] 39) (.cells #[.slice ak' ks'.length ck', .slice ap' ps'.length cp', .slice ae' es'.length ce'] 39) (.cells #[.slice none 0 0, .slice none 0 0, .slice none 0 0] 39) ∧ wr.heap[X]? = some (.cells #[.slice a1 ks.length c1, .slice a2 ps.length c2, .slice za (putEs es (chgsOf es')).length zc] 39 (0, 0)) ∧ BookNew (w3.heap.size + 1) wr (.slice a1 ks.length c1) (.slice a2 ps.length c2) (.slice za (putEs es (chgsOf es')).length zc) ks ps (putEs es (chgsOf es'))) := by
        have h := HI.out
        rw [List.take_of_length_le (show es'.length ≤ i by omega)] at h
        exact h
      clear HI
      have HES := toHidC (HSM2.out _ HL60.out)
      obtain ⟨t0, t1, t2⟩ := three_cellsM HI2.out.2.1
      have hXz : X < wr.heap.size := (Array.getElem?_eq_some_iff.1 HI2.out.2.1).1
      have HX5 : Hid (Blk3 w wr (.cells #[.slice ak ks.length ck, .slice ap ps.length cp, .slice ae es.length ce] 39) (.cells #[.slice ak' ks'.length ck', .slice ap' ps'.length cp', .slice ae' es'.length ce'] 39) (.cells #[.slice none 0 0, .slice none 0 0, .slice none 0 0] 39)) := HI2.out.1
      by_cases h12 : 12 < (putEs es (chgsOf es')).length
      · have h12' : (12 : Int) < ((putEs es (chgsOf es')).length : Int) := by omega
        have HE : Hid (mrgC ks ps ks' ps' es es' = 3 ∧ mrgT ks ps ks' ps' es es' ks = [] ∧ mrgT ks ps ks' ps' es es' ps = [] ∧ mrgE ks ps ks' ps' es es' = []) := HNY.out h12
        clear h12
        have hr5 := HX5.out.b2
        go_wp2_with (refine wpList_store_row rfl 39 _ _ rfl (w.heap.size + 1 + 1) #[.slice none 0 0, .slice none 0 0, .slice none 0 0] rfl rfl 39 _ HX5.out.b2 (by kernel_rfl) rfl (by simp [Value.oneCell']) ?_)
        exact bodyPost_ret (v := .tuple #[.agg #[.slice none 0 0, .slice none 0 0, .slice none 0 0], .int .i64 3]) (by simp [results, Tryz.results15, go_sem, cell_setRow_same _ _ _ _ _ _ _ HX5.out.b2]) rfl ⟨_, _, _, by rw [HE.out.1], by rw [HE.out.2.1, HE.out.2.2.1, HE.out.2.2.2]; exact BookNew.none _ _, below_setRow HX5.out.below (by omega) _⟩
      · have h12' : ¬ (12 : Int) < ((putEs es (chgsOf es')).length : Int) := by omega
        have HE : Hid (mrgC ks ps ks' ps' es es' = 0 ∧ mrgT ks ps ks' ps' es es' ks = ks ∧ mrgT ks ps ks' ps' es es' ps = ps ∧ mrgE ks ps ks' ps' es es' = putEs es (chgsOf es')) := HYES.out h12
        clear h12
        generalize putEs es (chgsOf es') = es2 at *
        go_wp2_with fail
        refine (specL3Copy_any _ _ _ ks ps es2 _ HI2.out.2.2.at SS.out.1.k SS.out.1.p (by have h := HES.out.1; omega) (fun e he => by have h := HES.out.2 e he; omega)).mono ?_
        rintro e w7 ⟨x, y, z, rfl, hN7, hb7⟩
        obtain ⟨b1, d1, b2, d2, b3, d3, rfl, rfl, rfl⟩ := hN7.slices
        have HX7 : Hid (Blk3 w w7 (.cells #[.slice ak ks.length ck, .slice ap ps.length cp, .slice ae es.length ce] 39) (.cells #[.slice ak' ks'.length ck', .slice ap' ps'.length cp', .slice ae' es'.length ce'] 39) (.cells #[.slice none 0 0, .slice none 0 0, .slice none 0 0] 39)) := HX5.out.call hb7
        have hz6 := HX5.out.z
        have HN7 := toHidC hN7
        have hr7 := HX7.out.b2
        clear hN7 hb7 HX5 t0 t1 t2 HI2
        go_wp2_with (refine wpList_store_row rfl 39 _ _ rfl (w.heap.size + 1 + 1) #[.slice b1 ks.length d1, .slice b2 ps.length d2, .slice b3 es2.length d3] rfl rfl 39 _ hr7 (by kernel_rfl) rfl (by simp [Value.oneCell']) ?_)
        exact bodyPost_ret (v := .tuple #[.agg #[.slice b1 ks.length d1, .slice b2 ps.length d2, .slice b3 es2.length d3], .int .i64 0]) (by simp [results, Tryz.results15, go_sem, cell_setRow_same _ _ _ _ _ _ _ hr7]) rfl ⟨_, _, _, by rw [HE.out.1], by rw [HE.out.2.1, HE.out.2.2.1, HE.out.2.2.2]; exact (HN7.out.far (grown_rowF w7 (w.heap.size + 1 + 1) _) (by omega)).mono (by omega), below_setRow HX7.out.below (by omega) _⟩
end Go.Proofs.YtfjblenkcfdbiaaGreat
