/-
  For the proof of takeall_holds: part 25 (TakeS, Same, Mrg0, Mark1).
-/
import Derived.Deep.RegionHeld3
import Derived.Test.YtehpdbbkbdfobabGreatRowTakeAllJ24
/-
  The specification: a change taken into a book.
-/
namespace Go.Proofs.YtehpdbbkbdfobabGreat
open Go.RowKit
set_option linter.unusedSimpArgs false
set_option linter.unusedVariables false

theorem Blk3.low {w wr wy : World} {X Y Z : Obj} {lo : Nat} (h : Blk3 w wr X Y Z) (hb : Below lo wr wy) (hl : w.heap.size + 3 ≤ lo) : Blk3 w wy X Y Z := by
  have hz := h.z
  exact ⟨h.below.trans (hb.mono (by omega)), (hb.block _ (by omega)).trans h.b0, (hb.block _ (by omega)).trans h.b1, (hb.block _ (by omega)).trans h.b2⟩
theorem book_len {ks ps : List Tri} {es : List Ent} (h : bookB ks ps es = true) : es.length ≤ 12 := by
  rw [book_eq] at h
  simp only [Bool.and_eq_true, decide_eq_true_eq] at h
  exact h.2.1
theorem book_base {ks ps : List Tri} {es : List Ent} (h : bookB ks ps es = true) : baseB ks ps = true := by
  rw [book_eq] at h
  simp only [Bool.and_eq_true] at h
  exact h.1
theorem putE_small {es : List Ent} (n : ByteArray) (f : Fld) (h : ∀ e ∈ es, e.fs.length ≤ 1048575) : ∀ e ∈ putE es n f, e.fs.length ≤ 1048576 := by
  induction es with
  | nil => intro e he; simp [putE] at he; subst he; simp
  | cons x es ih =>
    intro e he
    rw [putE] at he
    split at he
    · rcases List.mem_cons.1 he with rfl | he
      · have := putF_len x.fs f
        have := h x (by simp)
        show (putF x.fs f).length ≤ _
        omega
      · have := h e (by simp [he]); omega
    · split at he
      · rcases List.mem_cons.1 he with rfl | he
        · have := h e (by simp); omega
        · exact ih (fun e he => h e (by simp [he])) e he
      · rcases List.mem_cons.1 he with rfl | he
        · simp
        · have := h e he; omega
theorem book_fs5 {ks ps : List Tri} {es : List Ent} (h : bookB ks ps es = true) : ∀ e ∈ es, e.fs.length ≤ 5 := fun e he => by
  have hf := book_fields h he
  have hs := fields_sorted hf
  have hw : ∀ f ∈ e.fs, 1 ≤ f.what ∧ f.what ≤ 5 := fun f hf' => fit_what (fields_fit hf hf')
  clear hf
  generalize e.fs = l at *
  have key : ∀ (l : List Fld) (m : Int), 1 ≤ m → l.Pairwise (fun a b => a.what < b.what) → (∀ f ∈ l, m ≤ f.what ∧ f.what ≤ 5) → (l.length : Int) ≤ 6 - m ∨ l.length = 0 := by
    intro l
    induction l with
    | nil => intro m _ _ _; exact .inr rfl
    | cons a l ih =>
      intro m hm hp hb
      have hp' := List.pairwise_cons.1 hp
      have ha := hb a (by simp)
      left
      rcases ih (a.what + 1) (by omega) hp'.2 (fun f hf => ⟨by have := hp'.1 f hf; omega, (hb f (by simp [hf])).2⟩) with h1 | h1
      · simp only [List.length_cons]; omega
      · simp only [List.length_cons, h1]; omega
  rcases key l 1 (by omega) hs hw with h1 | h1 <;> omega

set_option maxRecDepth 100000 in
set_option maxHeartbeats 12800000 in
theorem specTake_any (vk vp ve : Value) (ks ps : List Tri) (es : List Ent) (c : Chg) (w : World) (hB : BookAt w vk vp ve ks ps es) (nB : BNames ks ps es) (sB : BSmall ks ps es) (hcf : c.f.size ≤ 1048576) (hcv : c.v.size ≤ 1048576) :
    Calls Tryz.prog 9 #[.agg #[vk, vp, ve], .agg #[.string c.f, .int .i64 c.what, .int .i64 c.num, .string c.v]] w fun e w' => ∃ x y z, e = .returned (.tuple #[.agg #[x, y, z], .int .i64 (takeC ks ps es c)]) ∧ BookNew w.heap.size w' x y z (takeT ks ps es ks) (takeT ks ps es ps) (takeE ks ps es c) ∧ Below w.heap.size w w' := by
  have HB : Hid (BookAt w vk vp ve ks ps es) := hB
  have NB : Hid (BNames ks ps es) := nB
  have SB : Hid (BSmall ks ps es) := sB
  obtain ⟨⟨ak, ck, rfl, -, -, -⟩, ⟨ap, cp, rfl, -, -, -⟩, ⟨ae, ce, rfl, -, -, -⟩⟩ := hB
  have HFT : Hid (∀ wx : World, Below w.heap.size w wx → Calls Tryz.prog 34 #[.agg #[.slice ak ks.length ck, .slice ap ps.length cp], .agg #[.string c.f, .int .i64 c.what, .int .i64 c.num, .string c.v]] wx fun e w' => e = .returned (.bool (baseB ks ps && fitB ks ps c)) ∧ Below wx.heap.size wx w') := fun wx hx => specChangeOk_any _ _ ks ps c wx (HB.out.k.keep hx) (HB.out.p.keep hx) NB.out.k NB.out.p hcf hcv
  clear nB sB
  go_enter Tryz.func9, Tryz.ntmps9
  have HX0 : Hid (Blk3 w _ _ _ _) := Blk3.start w (.cells #[.slice ak ks.length ck, .slice ap ps.length cp, .slice ae es.length ce] 39) (.cells #[.string c.f, .int .i64 c.what, .int .i64 c.num, .string c.v] 43) (.cells #[.slice none 0 0, .slice none 0 0, .slice none 0 0] 39)
  go_wp2_with fail
  refine (specBookOk_any _ _ _ ks ps es _ (HB.out.keep HX0.out.below) NB.out SB.out).mono ?_
  rintro e w1 ⟨rfl, hb1⟩
  have HX1 : Hid (Blk3 w w1 (.cells #[.slice ak ks.length ck, .slice ap ps.length cp, .slice ae es.length ce] 39) (.cells #[.string c.f, .int .i64 c.what, .int .i64 c.num, .string c.v] 43) (.cells #[.slice none 0 0, .slice none 0 0, .slice none 0 0] 39)) := HX0.out.call hb1
  clear HX0 hb1
  obtain ⟨y0, y1, y2⟩ : w1.cell? ⟨w.heap.size, 0, none⟩ = some (.slice ak ks.length ck) ∧ w1.cell? ⟨w.heap.size, 1, none⟩ = some (.slice ap ps.length cp) ∧ w1.cell? ⟨w.heap.size, 2, none⟩ = some (.slice ae es.length ce) := by simp [World.cell?, HX1.out.b0]
  have hr1 := HX1.out.b2
  have hz1 := HX1.out.z
  cases hbb : bookB ks ps es
  · have HE : Hid (takeC ks ps es c = 1 ∧ takeT ks ps es ks = [] ∧ takeT ks ps es ps = [] ∧ takeE ks ps es c = []) := by
      show _ ∧ _ ∧ _ ∧ _
      unfold takeC takeT takeE; rw [hbb]; exact ⟨rfl, rfl, rfl, rfl⟩
    clear hbb
    go_wp2_with (refine wpList_store_row rfl 39 _ _ rfl (w.heap.size + 1 + 1) #[.slice none 0 0, .slice none 0 0, .slice none 0 0] rfl rfl 39 _ hr1 (by kernel_rfl) rfl (by simp [Value.oneCell']) ?_)
    exact bodyPost_ret (v := .tuple #[.agg #[.slice none 0 0, .slice none 0 0, .slice none 0 0], .int .i64 1]) (by simp [results, Tryz.results9, go_sem, cell_setRow_same _ _ _ _ _ _ _ hr1]) rfl ⟨_, _, _, by rw [HE.out.1], by rw [HE.out.2.1, HE.out.2.2.1, HE.out.2.2.2]; exact BookNew.none _ _, below_setRow HX1.out.below (by omega) _⟩
  have HBB : Hid (bookB ks ps es = true) := hbb
  have HTK : Hid (takeT ks ps es ks = ks ∧ takeT ks ps es ps = ps) := by
    show _ ∧ _
    unfold takeT; rw [hbb]; exact ⟨rfl, rfl⟩
  clear hbb hr1
  have hl12 := book_len HBB.out
  have HF5 : Hid (∀ e ∈ es, e.fs.length ≤ 5) := book_fs5 HBB.out
  go_wp2_with fail
  refine (specL3Copy_any _ _ _ ks ps es _ (HB.out.keep HX1.out.below) SB.out.k SB.out.p SB.out.e SB.out.f).mono ?_
  rintro e w2 ⟨x, y, z, rfl, hN2, hb2⟩
  obtain ⟨a1, c1, a2, c2, a3, c3, rfl, rfl, rfl⟩ := hN2.slices
  have hal : Below w2.heap.size w2 (w2.alloc (.cells #[.slice a1 ks.length c1, .slice a2 ps.length c2, .slice a3 es.length c3] 39)) := (Below.refl _ _).alloc (Nat.le_refl _) _
  have HX3 : Hid (Blk3 w (w2.alloc (.cells #[.slice a1 ks.length c1, .slice a2 ps.length c2, .slice a3 es.length c3] 39)) (.cells #[.slice ak ks.length ck, .slice ap ps.length cp, .slice ae es.length ce] 39) (.cells #[.string c.f, .int .i64 c.what, .int .i64 c.num, .string c.v] 43) (.cells #[.slice none 0 0, .slice none 0 0, .slice none 0 0] 39)) := (HX1.out.call hb2).call hal
  have HN3 : Hid (BookNew (w1.heap.size + 2) (w2.alloc (.cells #[.slice a1 ks.length c1, .slice a2 ps.length c2, .slice a3 es.length c3] 39)) (.slice a1 ks.length c1) (.slice a2 ps.length c2) (.slice a3 es.length c3) ks ps es) := hN2.keep hal
  have HT3 : Hid ((w2.alloc (.cells #[.slice a1 ks.length c1, .slice a2 ps.length c2, .slice a3 es.length c3] 39)).heap[w2.heap.size]? = some (.cells #[.slice a1 ks.length c1, .slice a2 ps.length c2, .slice a3 es.length c3] 39 (0, 0))) := heap_newF w2 _
  have hs12 : w1.heap.size ≤ w2.heap.size := hb2.size
  obtain ⟨x0, x1, x2, x3⟩ : (w2.alloc (.cells #[.slice a1 ks.length c1, .slice a2 ps.length c2, .slice a3 es.length c3] 39)).cell? ⟨w.heap.size + 1, 0, none⟩ = some (.string c.f) ∧ (w2.alloc (.cells #[.slice a1 ks.length c1, .slice a2 ps.length c2, .slice a3 es.length c3] 39)).cell? ⟨w.heap.size + 1, 1, none⟩ = some (.int .i64 c.what) ∧ (w2.alloc (.cells #[.slice a1 ks.length c1, .slice a2 ps.length c2, .slice a3 es.length c3] 39)).cell? ⟨w.heap.size + 1, 2, none⟩ = some (.int .i64 c.num) ∧ (w2.alloc (.cells #[.slice a1 ks.length c1, .slice a2 ps.length c2, .slice a3 es.length c3] 39)).cell? ⟨w.heap.size + 1, 3, none⟩ = some (.string c.v) := by simp only [World.cell?, HX3.out.b1]; simp
  obtain ⟨q0, q1, q2⟩ : (w2.alloc (.cells #[.slice a1 ks.length c1, .slice a2 ps.length c2, .slice a3 es.length c3] 39)).cell? ⟨w.heap.size, 0, none⟩ = some (.slice ak ks.length ck) ∧ (w2.alloc (.cells #[.slice a1 ks.length c1, .slice a2 ps.length c2, .slice a3 es.length c3] 39)).cell? ⟨w.heap.size, 1, none⟩ = some (.slice ap ps.length cp) ∧ (w2.alloc (.cells #[.slice a1 ks.length c1, .slice a2 ps.length c2, .slice a3 es.length c3] 39)).cell? ⟨w.heap.size, 2, none⟩ = some (.slice ae es.length ce) := by simp only [World.cell?, HX3.out.b0]; simp
  clear hN2 hb2 hal HX1 y0 y1 y2
  go_wp2_with fail
  refine (HFT.out _ HX3.out.below).mono ?_
  rintro e w4 ⟨rfl, hb4⟩
  have HX4 : Hid (Blk3 w w4 (.cells #[.slice ak ks.length ck, .slice ap ps.length cp, .slice ae es.length ce] 39) (.cells #[.string c.f, .int .i64 c.what, .int .i64 c.num, .string c.v] 43) (.cells #[.slice none 0 0, .slice none 0 0, .slice none 0 0] 39)) := HX3.out.call hb4
  have HN4 : Hid (BookNew (w1.heap.size + 2) w4 (.slice a1 ks.length c1) (.slice a2 ps.length c2) (.slice a3 es.length c3) ks ps es) := HN3.out.keep hb4
  have HT4 : Hid (w4.heap[w2.heap.size]? = some (.cells #[.slice a1 ks.length c1, .slice a2 ps.length c2, .slice a3 es.length c3] 39 (0, 0))) := (hb4.block _ (by simp)).trans HT3.out
  have HBF : Hid ((baseB ks ps && fitB ks ps c) = fitB ks ps c) := by
    show _ = _
    rw [book_base HBB.out, Bool.true_and]
  rw [HBF.out]
  clear hb4 HX3 HN3 HT3 x0 x1 x2 x3 q0 q1 q2 HBF
  obtain ⟨x0, x1, x2, x3⟩ : w4.cell? ⟨w.heap.size + 1, 0, none⟩ = some (.string c.f) ∧ w4.cell? ⟨w.heap.size + 1, 1, none⟩ = some (.int .i64 c.what) ∧ w4.cell? ⟨w.heap.size + 1, 2, none⟩ = some (.int .i64 c.num) ∧ w4.cell? ⟨w.heap.size + 1, 3, none⟩ = some (.string c.v) := by simp [World.cell?, HX4.out.b1]
  obtain ⟨q0, q1, q2⟩ : w4.cell? ⟨w.heap.size, 0, none⟩ = some (.slice ak ks.length ck) ∧ w4.cell? ⟨w.heap.size, 1, none⟩ = some (.slice ap ps.length cp) ∧ w4.cell? ⟨w.heap.size, 2, none⟩ = some (.slice ae es.length ce) := by simp [World.cell?, HX4.out.b0]
  obtain ⟨t0, t1, t2⟩ := three_cellsF HT4.out
  have hr4 := HX4.out.b2
  have hz4 : w.heap.size < w4.heap.size := by have := HX4.out.z; omega
  cases hff : fitB ks ps c
  · have HE : Hid (takeC ks ps es c = 2 ∧ takeE ks ps es c = es) := by
      show _ ∧ _
      unfold takeC takeE; rw [HBB.out, hff]; exact ⟨rfl, rfl⟩
    clear hff
    go_wp2_with (refine wpList_store_row rfl 39 _ _ rfl (w.heap.size + 1 + 1) #[.slice a1 ks.length c1, .slice a2 ps.length c2, .slice a3 es.length c3] rfl rfl 39 _ hr4 (by kernel_rfl) rfl (by simp [Value.oneCell']) ?_)
    exact bodyPost_ret (v := .tuple #[.agg #[.slice a1 ks.length c1, .slice a2 ps.length c2, .slice a3 es.length c3], .int .i64 2]) (by simp [results, Tryz.results9, go_sem, cell_setRow_same _ _ _ _ _ _ _ hr4]) rfl ⟨_, _, _, by rw [HE.out.1], by rw [HTK.out.1, HTK.out.2, HE.out.2]; exact (HN4.out.far (grown_rowF w4 (w.heap.size + 1 + 1) _) (by omega)).mono (by omega), below_setRow HX4.out.below (by omega) _⟩
  · have HFF : Hid (fitB ks ps c = true) := hff
    have HC : Hid (takeC ks ps es c = (bif decide (12 < (putE es c.f (fldC c)).length) then 3 else 0) ∧ takeE ks ps es c = (bif decide (12 < (putE es c.f (fldC c)).length) then es else putE es c.f (fldC c))) := by
      show _ ∧ _
      unfold takeC takeE; rw [HBB.out, hff]; exact ⟨rfl, rfl⟩
    have HPL : Hid ((putE es c.f (fldC c)).length = if es.any (fun e => decide (e.name = c.f)) then es.length else es.length + 1) := putE_len c.f (fldC c) (book_names HBB.out)
    clear hff
    go_wp2_with fail
    refine (l3At_any _ _ _ es c.f _ (HB.out.keep HX4.out.below).e).mono ?_
    rintro e w5 ⟨r, rfl, hr, hb5⟩
    have HX5 : Hid (Blk3 w w5 (.cells #[.slice ak ks.length ck, .slice ap ps.length cp, .slice ae es.length ce] 39) (.cells #[.string c.f, .int .i64 c.what, .int .i64 c.num, .string c.v] 43) (.cells #[.slice none 0 0, .slice none 0 0, .slice none 0 0] 39)) := HX4.out.call hb5
    have HN5 : Hid (BookNew (w1.heap.size + 2) w5 (.slice a1 ks.length c1) (.slice a2 ps.length c2) (.slice a3 es.length c3) ks ps es) := HN4.out.keep hb5
    have HT5 : Hid (w5.heap[w2.heap.size]? = some (.cells #[.slice a1 ks.length c1, .slice a2 ps.length c2, .slice a3 es.length c3] 39 (0, 0))) := (hb5.block _ (Array.getElem?_eq_some_iff.1 HT4.out).1).trans HT4.out
    have HAN : Hid ((r = -1 ∧ (es.any fun e => decide (e.name = c.f)) = false) ∨ (0 ≤ r ∧ (es.any fun e => decide (e.name = c.f)) = true)) := by
      rcases hr with ⟨h1, h2⟩ | ⟨k, h1, h2, h3⟩
      · refine .inl ⟨h1, ?_⟩
        rw [List.any_eq_false]
        intro e he
        have := List.find?_eq_none.1 h2 e he
        simpa using this
      · refine .inr ⟨by omega, ?_⟩
        rw [List.any_eq_true]
        have h4 := List.find?_some h3
        exact ⟨_, List.mem_of_getElem? (eat_get h1), h4⟩
    clear hb5 HX4 HN4 HT4 x0 x1 x2 x3 q0 q1 q2 t0 t1 t2 hr4 hz4 hr
    obtain ⟨x0, x1, x2, x3⟩ : w5.cell? ⟨w.heap.size + 1, 0, none⟩ = some (.string c.f) ∧ w5.cell? ⟨w.heap.size + 1, 1, none⟩ = some (.int .i64 c.what) ∧ w5.cell? ⟨w.heap.size + 1, 2, none⟩ = some (.int .i64 c.num) ∧ w5.cell? ⟨w.heap.size + 1, 3, none⟩ = some (.string c.v) := by simp [World.cell?, HX5.out.b1]
    obtain ⟨q0, q1, q2⟩ : w5.cell? ⟨w.heap.size, 0, none⟩ = some (.slice ak ks.length ck) ∧ w5.cell? ⟨w.heap.size, 1, none⟩ = some (.slice ap ps.length cp) ∧ w5.cell? ⟨w.heap.size, 2, none⟩ = some (.slice ae es.length ce) := by simp [World.cell?, HX5.out.b0]
    obtain ⟨t0, t1, t2⟩ := three_cellsF HT5.out
    have hr5 := HX5.out.b2
    have hz5 : w.heap.size + 2 < w5.heap.size := HX5.out.z
    have hs15 : w1.heap.size + 2 ≤ w5.heap.size ∨ w1.heap.size + 2 > w5.heap.size := by omega
    have HGO : Hid (∀ wq : World, Blk3 w wq (.cells #[.slice ak ks.length ck, .slice ap ps.length cp, .slice ae es.length ce] 39) (.cells #[.string c.f, .int .i64 c.what, .int .i64 c.num, .string c.v] 43) (.cells #[.slice none 0 0, .slice none 0 0, .slice none 0 0] 39) → BookNew (w1.heap.size + 1) wq (.slice a1 ks.length c1) (.slice a2 ps.length c2) (.slice a3 es.length c3) ks ps es → w1.heap.size + 1 ≤ wq.heap.size → Calls Tryz.prog 36 #[.agg #[.slice a1 ks.length c1, .slice a2 ps.length c2, .slice a3 es.length c3], .string c.f, .agg #[.int .i64 c.what, .int .i64 c.num, .string c.v]] wq fun e w' => ∃ z', e = .returned (.agg #[.slice a1 ks.length c1, .slice a2 ps.length c2, z']) ∧ BookNew (w1.heap.size + 1) w' (.slice a1 ks.length c1) (.slice a2 ps.length c2) z' ks ps (putE es c.f (fldC c)) ∧ Blk3 w w' (.cells #[.slice ak ks.length ck, .slice ap ps.length cp, .slice ae es.length ce] 39) (.cells #[.string c.f, .int .i64 c.what, .int .i64 c.num, .string c.v] 43) (.cells #[.slice none 0 0, .slice none 0 0, .slice none 0 0] 39)) := fun wq hX hN hle => by
      refine (l3Put_any _ _ _ ks ps es c.f (fldC c) (w1.heap.size + 1) wq hN hle (book_names HBB.out) SB.out.e SB.out.f).mono ?_
      rintro e w' ⟨z', rfl, h1, h2, -⟩
      exact ⟨z', rfl, h1, hX.low h2 (by omega)⟩
    have HPS : Hid ((putE es c.f (fldC c)).length ≤ 13 ∧ ∀ e ∈ putE es c.f (fldC c), e.fs.length ≤ 1048576) := by
      refine ⟨?_, putE_small _ _ (fun e he => by have := HF5.out e he; omega)⟩
      rw [HPL.out]; split <;> omega
    have HNL : Hid (BookNew (w1.heap.size + 1) w5 (.slice a1 ks.length c1) (.slice a2 ps.length c2) (.slice a3 es.length c3) ks ps es) := HN5.out.mono (by omega)
    have hle5 : w1.heap.size + 1 ≤ w5.heap.size := by have := (Array.getElem?_eq_some_iff.1 HT5.out).1; omega
    clear hs15
    rcases HAN.out with ⟨hr1, ha⟩ | ⟨hr1, ha⟩
    · subst hr1
      have HPL2 : Hid ((putE es c.f (fldC c)).length = es.length + 1) := by show _ = _; rw [HPL.out, ha]; rfl
      clear ha HAN HPL
      by_cases h12 : 12 ≤ es.length
      · have h12' : (12 : Int) ≤ (es.length : Int) := by omega
        have HE : Hid (takeC ks ps es c = 3 ∧ takeE ks ps es c = es) := by
          have h0 : decide (12 < (putE es c.f (fldC c)).length) = true := by rw [HPL2.out]; simp; omega
          show _ ∧ _
          rw [HC.out.1, HC.out.2, h0]; exact ⟨rfl, rfl⟩
        go_wp2_with (refine wpList_store_row rfl 39 _ _ rfl (w.heap.size + 1 + 1) #[.slice a1 ks.length c1, .slice a2 ps.length c2, .slice a3 es.length c3] rfl rfl 39 _ hr5 (by kernel_rfl) rfl (by simp [Value.oneCell']) ?_)
        exact bodyPost_ret (v := .tuple #[.agg #[.slice a1 ks.length c1, .slice a2 ps.length c2, .slice a3 es.length c3], .int .i64 3]) (by simp [results, Tryz.results9, go_sem, cell_setRow_same _ _ _ _ _ _ _ hr5]) rfl ⟨_, _, _, by rw [HE.out.1], by rw [HTK.out.1, HTK.out.2, HE.out.2]; exact (HN5.out.far (grown_rowF w5 (w.heap.size + 1 + 1) _) (by omega)).mono (by omega), below_setRow HX5.out.below (by omega) _⟩
      · have h12' : ¬ (12 : Int) ≤ (es.length : Int) := by omega
        have HE : Hid (takeC ks ps es c = 0 ∧ takeE ks ps es c = putE es c.f (fldC c)) := by
          have h0 : decide (12 < (putE es c.f (fldC c)).length) = false := by rw [HPL2.out]; simp; omega
          show _ ∧ _
          rw [HC.out.1, HC.out.2, h0]; exact ⟨rfl, rfl⟩
        go_wp2_with fail
        refine (HGO.out _ HX5.out HNL.out hle5).mono ?_
        rintro e w6 ⟨z', rfl, hN6, hX6⟩
        have HX6 : Hid (Blk3 w w6 (.cells #[.slice ak ks.length ck, .slice ap ps.length cp, .slice ae es.length ce] 39) (.cells #[.string c.f, .int .i64 c.what, .int .i64 c.num, .string c.v] 43) (.cells #[.slice none 0 0, .slice none 0 0, .slice none 0 0] 39)) := hX6
        have HN6 : Hid (BookAt w6 (.slice a1 ks.length c1) (.slice a2 ps.length c2) z' ks ps (putE es c.f (fldC c))) := hN6.at
        obtain ⟨-, -, -, -, a4, c4, -, -, rfl⟩ := hN6.slices
        clear hX6 hN6
        go_wp2_with fail
        refine (specL3Copy_any _ _ _ ks ps (putE es c.f (fldC c)) _ HN6.out SB.out.k SB.out.p (by have := HPS.out.1; omega) HPS.out.2).mono ?_
        rintro e w7 ⟨x, y, z, rfl, hN7, hb7⟩
        obtain ⟨b1, d1, b2, d2, b3, d3, rfl, rfl, rfl⟩ := hN7.slices
        have HX7 : Hid (Blk3 w w7 (.cells #[.slice ak ks.length ck, .slice ap ps.length cp, .slice ae es.length ce] 39) (.cells #[.string c.f, .int .i64 c.what, .int .i64 c.num, .string c.v] 43) (.cells #[.slice none 0 0, .slice none 0 0, .slice none 0 0] 39)) := HX6.out.call hb7
        have hz6 := HX6.out.z
        have HN7 := toHidC hN7
        have hr7 := HX7.out.b2
        clear hN7 hb7 HX6 HN6 hr5 HX5 HN5 HT5 HNL
        generalize putE es c.f (fldC c) = es' at *
        go_wp2_with (refine wpList_store_row rfl 39 _ _ rfl (w.heap.size + 1 + 1) #[.slice b1 ks.length d1, .slice b2 ps.length d2, .slice b3 es'.length d3] rfl rfl 39 _ hr7 (by kernel_rfl) rfl (by simp [Value.oneCell']) ?_)
        exact bodyPost_ret (v := .tuple #[.agg #[.slice b1 ks.length d1, .slice b2 ps.length d2, .slice b3 es'.length d3], .int .i64 0]) (by simp [results, Tryz.results9, go_sem, cell_setRow_same _ _ _ _ _ _ _ hr7]) rfl ⟨_, _, _, by rw [HE.out.1], by rw [HTK.out.1, HTK.out.2, HE.out.2]; exact (HN7.out.far (grown_rowF w7 (w.heap.size + 1 + 1) _) (by omega)).mono (by omega), below_setRow HX7.out.below (by omega) _⟩
    · have HPL2 : Hid ((putE es c.f (fldC c)).length = es.length) := by show _ = _; rw [HPL.out, ha]; rfl
      have hrn : ¬ r < 0 := by omega
      clear ha HAN HPL
      have HE : Hid (takeC ks ps es c = 0 ∧ takeE ks ps es c = putE es c.f (fldC c)) := by
        have h0 : decide (12 < (putE es c.f (fldC c)).length) = false := by rw [HPL2.out]; simp; omega
        show _ ∧ _
        rw [HC.out.1, HC.out.2, h0]; exact ⟨rfl, rfl⟩
      go_wp2_with fail
      refine (HGO.out _ HX5.out HNL.out hle5).mono ?_
      rintro e w6 ⟨z', rfl, hN6, hX6⟩
      have HX6 : Hid (Blk3 w w6 (.cells #[.slice ak ks.length ck, .slice ap ps.length cp, .slice ae es.length ce] 39) (.cells #[.string c.f, .int .i64 c.what, .int .i64 c.num, .string c.v] 43) (.cells #[.slice none 0 0, .slice none 0 0, .slice none 0 0] 39)) := hX6
      have HN6 : Hid (BookAt w6 (.slice a1 ks.length c1) (.slice a2 ps.length c2) z' ks ps (putE es c.f (fldC c))) := hN6.at
      obtain ⟨-, -, -, -, a4, c4, -, -, rfl⟩ := hN6.slices
      clear hX6 hN6
      go_wp2_with fail
      refine (specL3Copy_any _ _ _ ks ps (putE es c.f (fldC c)) _ HN6.out SB.out.k SB.out.p (by have := HPS.out.1; omega) HPS.out.2).mono ?_
      rintro e w7 ⟨x, y, z, rfl, hN7, hb7⟩
      obtain ⟨b1, d1, b2, d2, b3, d3, rfl, rfl, rfl⟩ := hN7.slices
      have HX7 : Hid (Blk3 w w7 (.cells #[.slice ak ks.length ck, .slice ap ps.length cp, .slice ae es.length ce] 39) (.cells #[.string c.f, .int .i64 c.what, .int .i64 c.num, .string c.v] 43) (.cells #[.slice none 0 0, .slice none 0 0, .slice none 0 0] 39)) := HX6.out.call hb7
      have hz6 := HX6.out.z
      have HN7 := toHidC hN7
      have hr7 := HX7.out.b2
      clear hN7 hb7 HX6 HN6 hr5 HX5 HN5 HT5 HNL
      generalize putE es c.f (fldC c) = es' at *
      go_wp2_with (refine wpList_store_row rfl 39 _ _ rfl (w.heap.size + 1 + 1) #[.slice b1 ks.length d1, .slice b2 ps.length d2, .slice b3 es'.length d3] rfl rfl 39 _ hr7 (by kernel_rfl) rfl (by simp [Value.oneCell']) ?_)
      exact bodyPost_ret (v := .tuple #[.agg #[.slice b1 ks.length d1, .slice b2 ps.length d2, .slice b3 es'.length d3], .int .i64 0]) (by simp [results, Tryz.results9, go_sem, cell_setRow_same _ _ _ _ _ _ _ hr7]) rfl ⟨_, _, _, by rw [HE.out.1], by rw [HTK.out.1, HTK.out.2, HE.out.2]; exact (HN7.out.far (grown_rowF w7 (w.heap.size + 1 + 1) _) (by omega)).mono (by omega), below_setRow HX7.out.below (by omega) _⟩
end Go.Proofs.YtehpdbbkbdfobabGreat

/-
  Two bases are the same: slices.Equal at kinds and points, both sides.
-/
namespace Go.Proofs.YtehpdbbkbdfobabGreat
open Go.RowKit
attribute [local go_sem] Later.cell Later.frozen
set_option linter.unusedSimpArgs false
set_option linter.unusedVariables false

theorem ret_boolS {a b : Bool} (h : a = b) : Ending.returned (.bool a) = .returned (.bool b) := by rw [h]
def triEq (a b : Tri) : Bool := (a.s.toList == b.s.toList) && ((a.x == b.x) && (a.y == b.y))
def sameT (l m : List Tri) : Bool := (l.length == m.length) && allB l.length fun i => triEq (at' l i) (at' m i)
theorem sameT_stop {l m : List Tri} {k : Nat} (hk : k < l.length) (h : triEq (at' l k) (at' m k) = false) : sameT l m = false := by
  unfold sameT
  cases ha : allB l.length fun i => triEq (at' l i) (at' m i)
  · simp
  · have := allB_get ha k hk
    rw [h] at this
    cases this
theorem sameT_len {l m : List Tri} (h : ¬ l.length = m.length) : sameT l m = false := by simp [sameT, h]
theorem sameT_all {l m : List Tri} (h : l.length = m.length) (ha : ∀ i, i < l.length → triEq (at' l i) (at' m i) = true) : sameT l m = true := by
  unfold sameT
  rw [allB_true ha, h]
  simp
/-- How two that are not the same part. -/
theorem triEq_cases (a b : Tri) : (triEq a b = true ∧ (a.s.toList == b.s.toList) = true ∧ (a.x == b.x) = true ∧ (a.y == b.y) = true) ∨ (triEq a b = false ∧ ((a.s.toList == b.s.toList) = false ∨ ((a.s.toList == b.s.toList) = true ∧ (a.x == b.x) = false) ∨ ((a.s.toList == b.s.toList) = true ∧ (a.x == b.x) = true ∧ (a.y == b.y) = false))) := by
  unfold triEq
  cases (a.s.toList == b.s.toList) <;> cases (a.x == b.x) <;> cases (a.y == b.y) <;> simp
set_option maxHeartbeats 3200000 in
theorem equalKind_any (u v : Value) (l m : List Tri) (w : World) (hu : TrisAt w u l) (hv : TrisAt w v m) (hl : l.length ≤ 1048576) :
    Calls Tryz.prog 91 #[u, v] w fun e w' => e = .returned (.bool (sameT l m)) ∧ Below w.heap.size w w' := by
  obtain ⟨au, cu, rfl, -, hmu, hcu⟩ := hu
  obtain ⟨av, cv, rfl, -, hmv, hcv⟩ := hv
  have HU : Hid (∀ i t, l[i]? = some t → ∃ b off, au = some ⟨b, off, none⟩ ∧ w.cell? ⟨b, off + i * 3, none⟩ = some (.string t.s) ∧ w.cell? ⟨b, off + i * 3 + 1, none⟩ = some (.int .i64 t.x) ∧ w.cell? ⟨b, off + i * 3 + 2, none⟩ = some (.int .i64 t.y)) := hcu
  have HV : Hid (∀ i t, m[i]? = some t → ∃ b off, av = some ⟨b, off, none⟩ ∧ w.cell? ⟨b, off + i * 3, none⟩ = some (.string t.s) ∧ w.cell? ⟨b, off + i * 3 + 1, none⟩ = some (.int .i64 t.x) ∧ w.cell? ⟨b, off + i * 3 + 2, none⟩ = some (.int .i64 t.y)) := hcv
  unfold maxLen at hmu hmv
  clear hcu hcv
  by_cases hlen : l.length = m.length
  · have hq : (((l.length : Nat) : Int) != ((m.length : Nat) : Int)) = false := by simp [hlen]
    have HLEN : Hid (l.length = m.length) := hlen
    have hl1 : l.length ≤ m.length := by omega
    clear hlen
    go_enter Tryz.func91, Tryz.ntmps91
    go_wp2
    go_loopw [13, 5] (fun i _ wr => ∃ k : Nat, k ≤ l.length ∧ i = .int .i64 k ∧ Hid (∀ i, i < k → triEq (at' l i) (at' m i) = true) ∧ Hid (Below w.heap.size w wr)) (fun i _ _ => l.length - (intOf i).toNat)
    case atStart => exact ⟨0, Nat.zero_le _, rfl, fun i hi => absurd hi (Nat.not_lt_zero _), Below.refl _ _⟩
    case round =>
      obtain ⟨k, hk, rfl, HA, HB⟩ := hrel
      by_cases hlt : k < l.length
      · obtain ⟨b, off, rfl, d0, d1, d2⟩ := HU.out k _ (at_get hlt)
        obtain ⟨b', off', rfl, e0, e1, e2⟩ := HV.out k _ (at_get (show k < m.length by omega))
        have c0 := cell_keep HB.out (Nat.le_refl _) d0
        have c1 := cell_keep HB.out (Nat.le_refl _) d1
        have c2 := cell_keep HB.out (Nat.le_refl _) d2
        have f0 := cell_keep HB.out (Nat.le_refl _) e0
        have f1 := cell_keep HB.out (Nat.le_refl _) e1
        have f2 := cell_keep HB.out (Nat.le_refl _) e2
        have z1 := lt_of_cell c0
        have z2 := lt_of_cell f0
        clear d0 d1 d2 e0 e1 e2
        have hk0 : (0 : Int) ≤ (k : Int) := by omega
        have hk1 : (k : Int) < (l.length : Int) := by omega
        have hk2 : (k : Int) < (m.length : Int) := by omega
        have hne := Later.some wr
        rcases triEq_cases (at' l k) (at' m k) with ⟨ht, h1, h2, h3⟩ | ⟨ht, h1⟩
        · have HN : Hid (∀ i, i < k + 1 → triEq (at' l i) (at' m i) = true) := fun i hi => by
            by_cases e : i = k
            · subst e; exact ht
            · exact HA.out i (by omega)
          clear ht
          go_wp2
          refine wp_region_later (by kernel_rfl) (by kernel_rfl) ?_
          repeat (go_big_quiet_step (fail))
          refine wpQuiet_nil ?_
          rintro _ ⟨x, rfl⟩
          have HB2 : Hid (Below w.heap.size w x.val) := below_step HB.out x.below
          go_wp2
          exact ⟨⟨k + 1, by omega, by go_num, HN, HB2⟩, by simp [intOf]; omega⟩
        · have HS : Hid (sameT l m = false) := sameT_stop hlt ht
          clear ht
          rcases h1 with h1 | ⟨h1, h2⟩ | ⟨h1, h2, h3⟩
          all_goals
            go_wp2
            refine wp_region_later (by kernel_rfl) (by kernel_rfl) ?_
            repeat (go_big_quiet_step (fail))
            refine wpQuiet_nil ?_
            rintro _ ⟨x, rfl⟩
            have HB2 : Hid (Below w.heap.size w x.val) := below_step HB.out x.below
            go_wp2
            go_ret
            exact ⟨ret_boolS HS.out.symm, HB2.out⟩
      · have HS : Hid (sameT l m = true) := sameT_all HLEN.out (fun i hi => HA.out i (by omega))
        go_wp2
        go_ret
        exact ⟨ret_boolS HS.out.symm, HB.out⟩
  · have hq : (((l.length : Nat) : Int) != ((m.length : Nat) : Int)) = true := by simp; omega
    have HS : Hid (sameT l m = false) := sameT_len hlen
    clear hlen
    go_enter Tryz.func91, Tryz.ntmps91
    go_wp2
    go_ret
    exact ⟨ret_boolS HS.out.symm, Below.refl _ _⟩
set_option maxHeartbeats 3200000 in
theorem equalPoint_any (u v : Value) (l m : List Tri) (w : World) (hu : TrisAt w u l) (hv : TrisAt w v m) (hl : l.length ≤ 1048576) :
    Calls Tryz.prog 92 #[u, v] w fun e w' => e = .returned (.bool (sameT l m)) ∧ Below w.heap.size w w' := by
  obtain ⟨au, cu, rfl, -, hmu, hcu⟩ := hu
  obtain ⟨av, cv, rfl, -, hmv, hcv⟩ := hv
  have HU : Hid (∀ i t, l[i]? = some t → ∃ b off, au = some ⟨b, off, none⟩ ∧ w.cell? ⟨b, off + i * 3, none⟩ = some (.string t.s) ∧ w.cell? ⟨b, off + i * 3 + 1, none⟩ = some (.int .i64 t.x) ∧ w.cell? ⟨b, off + i * 3 + 2, none⟩ = some (.int .i64 t.y)) := hcu
  have HV : Hid (∀ i t, m[i]? = some t → ∃ b off, av = some ⟨b, off, none⟩ ∧ w.cell? ⟨b, off + i * 3, none⟩ = some (.string t.s) ∧ w.cell? ⟨b, off + i * 3 + 1, none⟩ = some (.int .i64 t.x) ∧ w.cell? ⟨b, off + i * 3 + 2, none⟩ = some (.int .i64 t.y)) := hcv
  unfold maxLen at hmu hmv
  clear hcu hcv
  by_cases hlen : l.length = m.length
  · have hq : (((l.length : Nat) : Int) != ((m.length : Nat) : Int)) = false := by simp [hlen]
    have HLEN : Hid (l.length = m.length) := hlen
    have hl1 : l.length ≤ m.length := by omega
    clear hlen
    go_enter Tryz.func92, Tryz.ntmps92
    go_wp2
    go_loopw [13, 5] (fun i _ wr => ∃ k : Nat, k ≤ l.length ∧ i = .int .i64 k ∧ Hid (∀ i, i < k → triEq (at' l i) (at' m i) = true) ∧ Hid (Below w.heap.size w wr)) (fun i _ _ => l.length - (intOf i).toNat)
    case atStart => exact ⟨0, Nat.zero_le _, rfl, fun i hi => absurd hi (Nat.not_lt_zero _), Below.refl _ _⟩
    case round =>
      obtain ⟨k, hk, rfl, HA, HB⟩ := hrel
      by_cases hlt : k < l.length
      · obtain ⟨b, off, rfl, d0, d1, d2⟩ := HU.out k _ (at_get hlt)
        obtain ⟨b', off', rfl, e0, e1, e2⟩ := HV.out k _ (at_get (show k < m.length by omega))
        have c0 := cell_keep HB.out (Nat.le_refl _) d0
        have c1 := cell_keep HB.out (Nat.le_refl _) d1
        have c2 := cell_keep HB.out (Nat.le_refl _) d2
        have f0 := cell_keep HB.out (Nat.le_refl _) e0
        have f1 := cell_keep HB.out (Nat.le_refl _) e1
        have f2 := cell_keep HB.out (Nat.le_refl _) e2
        have z1 := lt_of_cell c0
        have z2 := lt_of_cell f0
        clear d0 d1 d2 e0 e1 e2
        have hk0 : (0 : Int) ≤ (k : Int) := by omega
        have hk1 : (k : Int) < (l.length : Int) := by omega
        have hk2 : (k : Int) < (m.length : Int) := by omega
        have hne := Later.some wr
        rcases triEq_cases (at' l k) (at' m k) with ⟨ht, h1, h2, h3⟩ | ⟨ht, h1⟩
        · have HN : Hid (∀ i, i < k + 1 → triEq (at' l i) (at' m i) = true) := fun i hi => by
            by_cases e : i = k
            · subst e; exact ht
            · exact HA.out i (by omega)
          clear ht
          go_wp2
          refine wp_region_later (by kernel_rfl) (by kernel_rfl) ?_
          repeat (go_big_quiet_step (fail))
          refine wpQuiet_nil ?_
          rintro _ ⟨x, rfl⟩
          have HB2 : Hid (Below w.heap.size w x.val) := below_step HB.out x.below
          go_wp2
          exact ⟨⟨k + 1, by omega, by go_num, HN, HB2⟩, by simp [intOf]; omega⟩
        · have HS : Hid (sameT l m = false) := sameT_stop hlt ht
          clear ht
          rcases h1 with h1 | ⟨h1, h2⟩ | ⟨h1, h2, h3⟩
          all_goals
            go_wp2
            refine wp_region_later (by kernel_rfl) (by kernel_rfl) ?_
            repeat (go_big_quiet_step (fail))
            refine wpQuiet_nil ?_
            rintro _ ⟨x, rfl⟩
            have HB2 : Hid (Below w.heap.size w x.val) := below_step HB.out x.below
            go_wp2
            go_ret
            exact ⟨ret_boolS HS.out.symm, HB2.out⟩
      · have HS : Hid (sameT l m = true) := sameT_all HLEN.out (fun i hi => HA.out i (by omega))
        go_wp2
        go_ret
        exact ⟨ret_boolS HS.out.symm, HB.out⟩
  · have hq : (((l.length : Nat) : Int) != ((m.length : Nat) : Int)) = true := by simp; omega
    have HS : Hid (sameT l m = false) := sameT_len hlen
    clear hlen
    go_enter Tryz.func92, Tryz.ntmps92
    go_wp2
    go_ret
    exact ⟨ret_boolS HS.out.symm, Below.refl _ _⟩
def sameBs (ks ks' ps ps' : List Tri) : Bool := sameT ks ks' && sameT ps ps'
set_option maxHeartbeats 3200000 in
theorem sameBase_any (vk vp uk up : Value) (ks ps ks' ps' : List Tri) (w : World) (hk : TrisAt w vk ks) (hp : TrisAt w vp ps) (hk' : TrisAt w uk ks') (hp' : TrisAt w up ps') (lk : ks.length ≤ 1048576) (lp : ps.length ≤ 1048576) :
    Calls Tryz.prog 50 #[.agg #[vk, vp], .agg #[uk, up]] w fun e w' => e = .returned (.bool (sameBs ks ks' ps ps')) ∧ Below w.heap.size w w' := by
  have H1 : Hid (TrisAt w vk ks ∧ TrisAt w vp ps ∧ TrisAt w uk ks' ∧ TrisAt w up ps') := ⟨hk, hp, hk', hp'⟩
  obtain ⟨ak, ck, rfl, -, -, -⟩ := hk
  obtain ⟨ap, cp, rfl, -, -, -⟩ := hp
  obtain ⟨ak', ck', rfl, -, -, -⟩ := hk'
  obtain ⟨ap', cp', rfl, -, -, -⟩ := hp'
  have HX0 : Hid (OwnAt w ((w.alloc (.cells #[.slice ak ks.length ck, .slice ap ps.length cp] 36)).alloc (.cells #[.slice ak' ks'.length ck', .slice ap' ps'.length cp'] 36)) [[.slice ak ks.length ck, .slice ap ps.length cp], [.slice ak' ks'.length ck', .slice ap' ps'.length cp']]) := ((OwnAt.start w).push rfl _ _).push (by simp) _ _
  go_enter Tryz.func50, Tryz.ntmps50
  go_wp2_with fail
  refine (equalKind_any _ _ ks ks' _ (H1.out.1.keep HX0.out.below) (H1.out.2.2.1.keep HX0.out.below) lk).mono ?_
  rintro e w1 ⟨rfl, hb1⟩
  have HX1 : Hid (OwnAt w w1 _) := HX0.out.call hb1
  clear HX0 hb1
  cases hs : sameT ks ks'
  · have HE : Hid (sameBs ks ks' ps ps' = false) := by show _ = _; unfold sameBs; rw [hs]; rfl
    clear hs
    go_wp2
    go_ret
    exact ⟨ret_boolS HE.out.symm, HX1.out.below⟩
  · have HE : Hid (sameBs ks ks' ps ps' = sameT ps ps') := by show _ = _; unfold sameBs; rw [hs]; rfl
    clear hs
    have x0 : w1.cell? ⟨w.heap.size, 0, none⟩ = some (.slice ak ks.length ck) := (HX1.out.has 0 _ rfl 0 _ rfl).1
    have x1 : w1.cell? ⟨w.heap.size, 1, none⟩ = some (.slice ap ps.length cp) := (HX1.out.has 0 _ rfl 1 _ rfl).1
    have y0 : w1.cell? ⟨w.heap.size + 1, 0, none⟩ = some (.slice ak' ks'.length ck') := (HX1.out.has 1 _ rfl 0 _ rfl).1
    have y1 : w1.cell? ⟨w.heap.size + 1, 1, none⟩ = some (.slice ap' ps'.length cp') := (HX1.out.has 1 _ rfl 1 _ rfl).1
    go_wp2_with fail
    refine (equalPoint_any _ _ ps ps' _ (H1.out.2.1.keep HX1.out.below) (H1.out.2.2.2.keep HX1.out.below) lp).mono ?_
    rintro e w2 ⟨rfl, hb2⟩
    have HB2 : Hid (Below w.heap.size w w2) := below_step HX1.out.below hb2
    clear hb2
    go_wp2
    go_ret
    exact ⟨ret_boolS HE.out.symm, HB2.out⟩
end Go.Proofs.YtehpdbbkbdfobabGreat

/-
  Two books together: what they come to, as both sides write it down.
-/
namespace Go.Proofs.YtehpdbbkbdfobabGreat
open Go.RowKit
set_option linter.unusedSimpArgs false
set_option linter.unusedVariables false

def putEs (es : List Ent) (cs : List Chg) : List Ent := cs.foldl (fun E c => putE E c.f (fldC c)) es
theorem putEs_sorted : ∀ (cs : List Chg) (es : List Ent), (es.Pairwise fun a b => blS a.name b.name = true) → (putEs es cs).Pairwise fun a b => blS a.name b.name = true
  | [], es, h => h
  | c :: cs, es, h => putEs_sorted cs _ (putE_sorted c.f (fldC c) h)
theorem putEs_ne : ∀ (cs : List Chg) (es : List Ent), (∀ e ∈ es, e.fs ≠ []) → ∀ e ∈ putEs es cs, e.fs ≠ []
  | [], es, h => h
  | c :: cs, es, h => putEs_ne cs _ (putE_ne c.f (fldC c) h)
theorem putEs_chgs : ∀ (cs : List Chg) (es : List Ent), (es.Pairwise fun a b => blS a.name b.name = true) → chgsOf (putEs es cs) = cs.foldl putC (chgsOf es)
  | [], es, h => rfl
  | c :: cs, es, h => by
    have h1 := putEs_chgs cs _ (putE_sorted c.f (fldC c) h)
    show chgsOf (putEs (putE es c.f (fldC c)) cs) = cs.foldl putC (putC (chgsOf es) c)
    rw [h1, chgs_putE c.f (fldC c) h]
    rfl
theorem putEs_snoc (es : List Ent) (cs : List Chg) (c : Chg) : putEs es (cs ++ [c]) = putE (putEs es cs) c.f (fldC c) := by simp [putEs]
theorem putEs_app (es : List Ent) (cs ds : List Chg) : putEs es (cs ++ ds) = putEs (putEs es cs) ds := by simp [putEs]
theorem fold_two {ks ps ks' ps' : List Tri} {es es' : List Ent} (h : bookB ks ps es = true) (h' : bookB ks' ps' es' = true) : (([chgsOf es, chgsOf es'] : List (List Chg)).flatten.foldl putC []).foldl addE [] = putEs es (chgsOf es') := by
  have e1 : ([chgsOf es, chgsOf es'] : List (List Chg)).flatten = chgsOf es ++ chgsOf es' := by simp
  rw [e1, List.foldl_append, putAll_self (book_sorted h), ← putEs_chgs _ _ (book_names h)]
  exact grp_self (putEs_ne _ _ (book_ne h)) (putE_apart (putEs_sorted _ _ (book_names h)))
theorem putE_lenM (es : List Ent) (n : ByteArray) (f : Fld) : (putE es n f).length ≤ es.length + 1 := by
  induction es with
  | nil => simp [putE]
  | cons e es ih =>
    rw [putE]
    split
    · simp
    · split
      · simp; omega
      · simp
theorem putEs_len : ∀ (cs : List Chg) (es : List Ent), (putEs es cs).length ≤ es.length + cs.length
  | [], es => Nat.le_refl _
  | c :: cs, es => by
    have h1 := putEs_len cs (putE es c.f (fldC c))
    have h2 := putE_lenM es c.f (fldC c)
    show (putEs (putE es c.f (fldC c)) cs).length ≤ _
    simp only [List.length_cons]
    omega
theorem putF_lenM (fs : List Fld) (f : Fld) : (putF fs f).length ≤ fs.length + 1 := by
  induction fs with
  | nil => simp [putF]
  | cons g l ih =>
    rw [putF]
    split
    · simp; omega
    · split
      · split <;> simp
      · simp
theorem putE_fsM {es : List Ent} (n : ByteArray) (f : Fld) (M : Nat) (h : ∀ e ∈ es, e.fs.length ≤ M) : ∀ e ∈ putE es n f, e.fs.length ≤ M + 1 := by
  induction es with
  | nil => intro e he; simp [putE] at he; subst he; simp
  | cons x es ih =>
    intro e he
    rw [putE] at he
    split at he
    · rcases List.mem_cons.1 he with rfl | he
      · have := putF_lenM x.fs f
        have := h x (by simp)
        show (putF x.fs f).length ≤ _
        omega
      · have := h e (by simp [he]); omega
    · split at he
      · rcases List.mem_cons.1 he with rfl | he
        · have := h e (by simp); omega
        · exact ih (fun e he => h e (by simp [he])) e he
      · rcases List.mem_cons.1 he with rfl | he
        · simp
        · have := h e he; omega
theorem putEs_fs : ∀ (cs : List Chg) (es : List Ent) (M : Nat), (∀ e ∈ es, e.fs.length ≤ M) → ∀ e ∈ putEs es cs, e.fs.length ≤ M + cs.length
  | [], es, M, h => h
  | c :: cs, es, M, h => fun e he => by
    have := putEs_fs cs (putE es c.f (fldC c)) (M + 1) (putE_fsM c.f (fldC c) M h) e he
    simp only [List.length_cons]
    omega
def mrgC (ks ps ks' ps' : List Tri) (es es' : List Ent) : Int := bif bookB ks ps es && bookB ks' ps' es' then (bif sameBs ks ks' ps ps' then (bif decide (12 < (putEs es (chgsOf es')).length) then 3 else 0) else 2) else 1
def mrgOk (ks ps ks' ps' : List Tri) (es es' : List Ent) : Bool := (bookB ks ps es && bookB ks' ps' es') && (sameBs ks ks' ps ps' && !decide (12 < (putEs es (chgsOf es')).length))
def mrgT (ks ps ks' ps' : List Tri) (es es' : List Ent) (l : List Tri) : List Tri := bif mrgOk ks ps ks' ps' es es' then l else []
def mrgE (ks ps ks' ps' : List Tri) (es es' : List Ent) : List Ent := bif mrgOk ks ps ks' ps' es es' then putEs es (chgsOf es') else []
end Go.Proofs.YtehpdbbkbdfobabGreat

/-
  The law's marks: the text of a mark.
-/
namespace Go.Proofs.YtehpdbbkbdfobabGreat
open Go.RowKit

def oneM (n : Int) : ByteArray := ⟨#[UInt8.ofNat n.toNat]⟩
theorem oneM_size (n : Int) : (oneM n).size = 1 := rfl
theorem convM (w : World) (b : Nat) (n : Int) (h : w.cell? ⟨b, 0, none⟩ = some (.int .u8 n)) :
    (convert 131 9 (.slice (some ⟨b, 0, none⟩) 1 1)).run Tryz.prog w = .ok (.string (oneM n)) w := by
  have := run_convert_bytes_arg (P := Tryz.prog) w 131 5 Tryz.underlying131 Tryz.underlying5 b 0 1 1 [n] rfl (fun i hi => by
    obtain rfl : i = 0 := by omega
    simpa using h) 9 Tryz.underlying9
  simpa [strOfNums, oneM] using this
/-- The digits ahead of what is there. -/
def mkD (k : Nat) (out : ByteArray) : ByteArray := if _h : k = 0 then out else mkD (k / 10) (oneM (48 + (k : Int) % 10) ++ out)
termination_by k
decreasing_by omega
theorem mkD_zero (out : ByteArray) : mkD 0 out = out := by rw [mkD]; simp
theorem mkD_step {k : Nat} (h : ¬ k = 0) (out : ByteArray) : mkD k out = mkD (k / 10) (oneM (48 + (k : Int) % 10) ++ out) := by rw [mkD, dif_neg h]
/-- The text of a mark. -/
def mkT (k : Nat) : ByteArray := if k = 0 then ⟨#[109, 48]⟩ else ⟨#[109]⟩ ++ mkD k ⟨#[]⟩

theorem ret_strM {a b : ByteArray} (h : a = b) : Ending.returned (.string a) = .returned (.string b) := by rw [h]

set_option maxHeartbeats 1600000 in
theorem markText_any (k0 : Nat) (hk : k0 < 10000000000) (w : World) :
    Calls Tryz.prog 57 #[.int .i64 k0] w fun e w' => e = .returned (.string (mkT k0)) ∧ Below w.heap.size w w' := by
  have kc := convM
  by_cases hz : k0 = 0
  · subst hz
    go_enter Tryz.func57, Tryz.ntmps57
    go_wp2
    go_ret
    exact ⟨rfl, Below.refl _ _⟩
  have e : mkT k0 = ⟨#[109]⟩ ++ mkD k0 ⟨#[]⟩ := by unfold mkT; rw [if_neg hz]
  have hz' : ¬ (k0 : Int) ≤ 0 := by omega
  rw [e]; clear e hz
  have HD : Hid (∀ o : ByteArray, o = mkD k0 ⟨#[]⟩ → Ending.returned (.string (⟨#[109]⟩ ++ o)) = .returned (.string (⟨#[109]⟩ ++ mkD k0 ⟨#[]⟩))) := fun o h => by rw [h]
  go_enter Tryz.func57, Tryz.ntmps57
  go_wp2
  go_loopw [0, 3] (fun kk out wr => ∃ (k j : Nat) (o : ByteArray), kk = .int .i64 k ∧ out = .string o ∧ k < 10 ^ j ∧ j ≤ 10 ∧ o.size + j ≤ 10 ∧ Hid (mkD k o = mkD k0 ⟨#[]⟩) ∧ Below w.heap.size w wr) (fun kk _ _ => (intOf kk).toNat)
  case atStart => exact ⟨k0, 10, ⟨#[]⟩, rfl, rfl, by omega, by omega, by decide, rfl, Below.refl _ _⟩
  case round =>
    obtain ⟨k, j, o, rfl, rfl, hj, hj10, ho, HM, hb⟩ := hrel
    by_cases hk0 : k = 0
    · subst hk0
      have HF : Hid (o = mkD k0 ⟨#[]⟩) := by
        have := HM.out; rw [mkD_zero] at this; exact this
      have hsz : ¬ 9223372036854775807 < (⟨#[109]⟩ : ByteArray).size + o.size := by
        have : (⟨#[109]⟩ : ByteArray).size = 1 := rfl
        omega
      go_wp2
      go_ret
      exact ⟨HD.out _ HF.out, hb⟩
    · have hj0 : 0 < j := by
        rcases Nat.eq_zero_or_pos j with rfl | h
        · simp at hj; omega
        · exact h
      have hpos : (0 : Int) < (k : Int) := by omega
      have hkb : k < 10000000000 := Nat.lt_of_lt_of_le hj (by have := Nat.pow_le_pow_right (show 0 < 10 by omega) hj10; omega)
      have HS : Hid (mkD (k / 10) (oneM (48 + (k : Int) % 10) ++ o) = mkD k0 ⟨#[]⟩) := by show _ = _; rw [← mkD_step hk0]; exact HM.out
      have hsz : ¬ 9223372036854775807 < (oneM (48 + (k : Int) % 10)).size + o.size := by rw [oneM_size]; omega
      have hw1 : IntKind.i64.wrap ((k : Int) / 10) = (k : Int) / 10 := by rw [IntKind.wrap_i64]; omega
      have hw3 : IntKind.i64.wrap (48 + (k : Int).tmod 10) = 48 + (k : Int) % 10 := by rw [Int.tmod_eq_emod_of_nonneg (by omega), IntKind.wrap_i64]; omega
      have hw4 : IntKind.u8.wrap (48 + (k : Int) % 10) = 48 + (k : Int) % 10 := by rw [IntKind.wrap_u8]; omega
      have HJ : Hid (k / 10 < 10 ^ (j - 1)) := by
        show _ < _
        obtain ⟨m, rfl⟩ : ∃ m, j = m + 1 := ⟨j - 1, by omega⟩
        rw [Nat.pow_succ] at hj
        simp only [Nat.add_sub_cancel]; omega
      clear hj hk0
      go_wp2
      exact ⟨⟨k / 10, j - 1, _, by simp, rfl, HJ.out, by omega, by rw [ByteArray.size_append, oneM_size]; omega, HS.out, hb.alloc hb.size _⟩, by simp [intOf]; omega⟩
end Go.Proofs.YtehpdbbkbdfobabGreat
