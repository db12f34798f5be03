/-
  For the proof of merge_holds: part 20 (Take1, Cpy0, Mark5).
-/
import Derived.Test.YtfjblenkcfdbiaaGreatRowMergeJ19
/-
  impl: a change taken into a book.
-/
namespace Go.Proofs.YtfjblenkcfdbiaaGreat
open Go.RowKit
set_option linter.unusedSimpArgs false
set_option linter.unusedVariables false

def takeC (ks ps : List Tri) (es : List Ent) (c : Chg) : Int := bif bookB ks ps es then (bif fitB ks ps c then (bif decide (12 < (putE es c.f (fldC c)).length) then 3 else 0) else 2) else 1
def takeE (ks ps : List Tri) (es : List Ent) (c : Chg) : List Ent := bif bookB ks ps es then (bif fitB ks ps c then (bif decide (12 < (putE es c.f (fldC c)).length) then es else putE es c.f (fldC c)) else es) else []
def takeT (ks ps : List Tri) (es : List Ent) (l : List Tri) : List Tri := bif bookB ks ps es then l else []

theorem wf_small {n : Int} (h0 : 0 ≤ n) (h1 : n ≤ 1000000) : (Lit.int .i64 n).wf = true := by
  simp [Lit.wf, IntKind.min, IntKind.max, IntKind.signed, IntKind.bits]
  omega
theorem fit_what {ks ps : List Tri} {c : Chg} (h : fitB ks ps c = true) : 1 ≤ c.what ∧ c.what ≤ 5 := by
  simp only [fitB, Bool.and_eq_true] at h
  have h2 := h.2.2
  unfold valB2 at h2
  repeat' split at h2
  all_goals (first | omega | cases h2)
theorem fit_key {ks ps : List Tri} {c : Chg} (h : fitB ks ps c = true) : KeyFit c ∧ 1 ≤ c.num := by
  have hw := fit_what h
  simp only [fitB, Bool.and_eq_true] at h
  have h1 := h.1
  have h2 := h.2.1
  simp [inB] at h2
  unfold nameB inB at h1
  simp at h1
  exact ⟨⟨by unfold maxLen; omega, wf_small (by omega) (by omega)⟩, h2.1⟩
theorem book_fit {ks ps : List Tri} {es : List Ent} (h : bookB ks ps es = true) : ∀ c ∈ chgsOf es, fitB ks ps c = true := fun c hc => by
  obtain ⟨e, he, hc⟩ := List.mem_flatMap.1 hc
  obtain ⟨f, hf, rfl⟩ := List.mem_map.1 hc
  exact fields_fit (book_fields h he) hf
theorem book_ne {ks ps : List Tri} {es : List Ent} (h : bookB ks ps es = true) : ∀ e ∈ es, e.fs ≠ [] := fun e he hn => by
  have := book_fields h he
  simp [fieldsB, hn] at this
theorem kinds_size {ks ps : List Tri} {es : List Ent} (h : bookB ks ps es = true) : (∀ t ∈ ks, t.s.size ≤ 1048576) ∧ ∀ t ∈ ps, t.s.size ≤ 1048576 := by
  have nm : ∀ (l : List Tri) (m : Nat), namesB l m = true → ∀ t ∈ l, t.s.size ≤ 1048576 := fun l m hl t ht => by
    obtain ⟨i, hi, rfl⟩ := List.getElem_of_mem ht
    unfold namesB at hl
    rw [Bool.and_eq_true] at hl
    have h1 := allB_get hl.2 i hi
    rw [Bool.and_eq_true] at h1
    have h2 := h1.1
    have e0 : at' l i = l[i] := by simp [at', hi]
    rw [e0] at h2
    unfold nameB inB at h2
    simp at h2
    omega
  unfold bookB baseB at h
  simp only [Bool.and_eq_true] at h
  have hk := h.1.1
  have hp := h.1.2
  unfold kindsB at hk
  unfold pointsB at hp
  rw [Bool.and_eq_true] at hk hp
  exact ⟨nm ks 6 hk.1, nm ps 16 hp.1⟩
theorem kinds_len {ks ps : List Tri} {es : List Ent} (h : bookB ks ps es = true) : ks.length ≤ 1048575 ∧ ps.length ≤ 1048575 := by
  unfold bookB baseB at h
  simp only [Bool.and_eq_true] at h
  have hk := h.1.1
  have hp := h.1.2
  unfold kindsB at hk
  unfold pointsB at hp
  rw [Bool.and_eq_true] at hk hp
  have h1 := hk.1
  have h2 := hp.1
  unfold namesB at h1 h2
  rw [Bool.and_eq_true, decide_eq_true_eq] at h1 h2
  exact ⟨by omega, by omega⟩
theorem fold_self {ks ps : List Tri} {es : List Ent} (h : bookB ks ps es = true) : (([chgsOf es] : List (List Chg)).flatten.foldl putC []).foldl addE [] = es := by
  have e1 : ([chgsOf es] : List (List Chg)).flatten = chgsOf es := by simp
  rw [e1, putAll_self (book_sorted h)]
  exact grp_self (book_ne h) (book_apart h)
theorem chg_self (c : Chg) : chgOf c.f (fldC c) = c := rfl
theorem fold_one {ks ps : List Tri} {es : List Ent} (c : Chg) (h : bookB ks ps es = true) : (([chgsOf es, [c]] : List (List Chg)).flatten.foldl putC []).foldl addE [] = putE es c.f (fldC c) := by
  have e1 : ([chgsOf es, [c]] : List (List Chg)).flatten = chgsOf es ++ [c] := by simp
  rw [e1, List.foldl_append, putAll_self (book_sorted h)]
  have := put_entries c.f (fldC c) (book_names h) (book_ne h)
  rw [chg_self] at this
  exact this
theorem chgs_smallT {ks ps : List Tri} {es : List Ent} (h : BSmall ks ps es) : ∀ c ∈ chgsOf es, c.f.size ≤ 1048576 ∧ c.v.size ≤ 1048576 := fun c hc => by
  unfold chgsOf at hc
  rw [List.mem_flatMap] at hc
  obtain ⟨e, he, hc⟩ := hc
  rw [List.mem_map] at hc
  obtain ⟨f, hf, rfl⟩ := hc
  exact ⟨h.n e he, h.v e he f hf⟩

theorem lists_one {w : World} {B : Nat} {v : Value} {L : List Chg} {t : TypeId} (hb : w.heap[B]? = some (.cells #[v] t (0, 0))) (hv : ChgsAt w v L) : ListsAt w (.slice (some ⟨B, 0, none⟩) 1 1) [L] := by
  refine ⟨_, 1, rfl, Nat.le_refl _, by unfold maxLen; omega, fun i M hM => ?_⟩
  match i, hM with
  | 0, hM => simp at hM; subst hM; exact ⟨B, 0, v, rfl, by simp [World.cell?, hb], hv⟩
  | n + 1, hM => simp at hM
theorem lists_two {w : World} {B : Nat} {v u : Value} {L K : List Chg} {t : TypeId} (hb : w.heap[B]? = some (.cells #[v, u] t (0, 0))) (hv : ChgsAt w v L) (hu : ChgsAt w u K) : ListsAt w (.slice (some ⟨B, 0, none⟩) 2 2) [L, K] := by
  refine ⟨_, 2, rfl, Nat.le_refl _, by unfold maxLen; omega, fun i M hM => ?_⟩
  match i, hM with
  | 0, hM => simp at hM; subst hM; exact ⟨B, 0, v, rfl, by simp [World.cell?, hb], hv⟩
  | 1, hM => simp at hM; subst hM; exact ⟨B, 0, u, rfl, by simp [World.cell?, hb], hu⟩
  | n + 2, hM => simp at hM
theorem chgs_single {w : World} {B : Nat} {c : Chg} {t : TypeId} (hb : w.heap[B]? = some (.cells #[.string c.f, .int .i64 c.what, .int .i64 c.num, .string c.v] t (0, 0))) : ChgsAt w (.slice (some ⟨B, 0, none⟩) 1 1) [c] := by
  refine ⟨_, 1, rfl, Nat.le_refl _, by unfold maxLen; omega, fun i d hd => ?_⟩
  match i, hd with
  | 0, hd => simp at hd; subst hd; exact ⟨B, 0, rfl, by simp [World.cell?, hb], by simp [World.cell?, hb], by simp [World.cell?, hb], by simp [World.cell?, hb]⟩
  | n + 1, hd => simp at hd
/-- Three blocks of a call's own. -/
structure Blk3 (w wr : World) (X Y Z : Obj) : Prop where
  below : Below w.heap.size w wr
  b0 : wr.heap[w.heap.size]? = some X
  b1 : wr.heap[w.heap.size + 1]? = some Y
  b2 : wr.heap[w.heap.size + 1 + 1]? = some Z
theorem Blk3.z {w wr : World} {X Y Z : Obj} (h : Blk3 w wr X Y Z) : w.heap.size + 2 < wr.heap.size := (Array.getElem?_eq_some_iff.1 h.b2).1
theorem Blk3.call {w wr wy : World} {X Y Z : Obj} (h : Blk3 w wr X Y Z) (hb : Below wr.heap.size wr wy) : Blk3 w wy X Y Z := by
  have hz := h.z
  exact ⟨below_step h.below hb, (hb.block _ (by omega)).trans h.b0, (hb.block _ (by omega)).trans h.b1, (hb.block _ (by omega)).trans h.b2⟩
theorem Blk3.start (w : World) (X Y Z : Obj) : Blk3 w (((w.alloc X).alloc Y).alloc Z) X Y Z := by
  have s1 : (w.alloc X).heap.size = w.heap.size + 1 := by simp
  have s2 : ((w.alloc X).alloc Y).heap.size = w.heap.size + 1 + 1 := by simp
  have h1 := heap_newF w X
  have h2 := heap_newF (w.alloc X) Y
  have h3 := heap_newF ((w.alloc X).alloc Y) Z
  rw [s1] at h2
  rw [s2] at h3
  refine ⟨(((Below.refl _ _).alloc (Nat.le_refl _) _).alloc (by simp) _).alloc (by simp; omega) _, ?_, ?_, h3⟩
  · exact (Below.heap_alloc _ _ _ (by omega)).trans ((Below.heap_alloc _ _ _ (by omega)).trans h1)
  · exact (Below.heap_alloc _ _ _ (by omega)).trans h2
theorem BookNew.none (lo : Nat) (w : World) : BookNew lo w (.slice none 0 0) (.slice none 0 0) (.slice none 0 0) [] [] [] := ⟨⟨rfl, .inl ⟨rfl, rfl⟩⟩, ⟨rfl, .inl ⟨rfl, rfl⟩⟩, [], rfl, PairsNew.nil _ _⟩
theorem BookNew.slices {lo : Nat} {w : World} {x y z : Value} {ks ps : List Tri} {es : List Ent} (h : BookNew lo w x y z ks ps es) : ∃ a1 c1 a2 c2 a3 c3, x = .slice a1 ks.length c1 ∧ y = .slice a2 ps.length c2 ∧ z = .slice a3 es.length c3 := by
  obtain ⟨h1, h2, l, h3, h4⟩ := h
  obtain ⟨a1, c1, rfl⟩ := own_slice h1
  obtain ⟨a2, c2, rfl⟩ := own_slice h2
  obtain ⟨a3, c3, rfl⟩ := own_slice h4.row
  exact ⟨a1, c1, a2, c2, a3, c3, rfl, rfl, by rw [← h3, List.length_map]⟩

set_option maxHeartbeats 6400000 in
theorem planTake_any (vk vp ve : Value) (ks ps : List Tri) (es : List Ent) (c : Chg) (w : World) (hB : BookAt w vk vp ve ks ps es) (nB : BNames ks ps es) (sB : BSmall ks ps es) (hsz : sumN (fun e => e.fs.length) es ≤ 1048576) (hcf : c.f.size ≤ 1048576) (hcv : c.v.size ≤ 1048576) :
    Calls Tryz.prog 11 #[.agg #[vk, vp, ve], .agg #[.string c.f, .int .i64 c.what, .int .i64 c.num, .string c.v]] w fun e w' => ∃ x y z, e = .returned (.tuple #[.agg #[x, y, z], .int .i64 (takeC ks ps es c)]) ∧ BookNew w.heap.size w' x y z (takeT ks ps es ks) (takeT ks ps es ps) (takeE ks ps es c) ∧ Below w.heap.size w w' := by
  have HB : Hid (BookAt w vk vp ve ks ps es) := hB
  have NB : Hid (BNames ks ps es) := nB
  have SB : Hid (BSmall ks ps es) := sB
  have HCO : Hid (∀ wx : World, Below w.heap.size w wx → Calls Tryz.prog 32 #[.agg #[vk, vp, ve]] wx fun e w' => ∃ v, e = .returned v ∧ ChgsNew w' wx.heap.size v (chgsOf es) ∧ Below wx.heap.size wx w') := fun wx hx => changesOf_any vk vp ve es wx (hB.keep hx).e hsz sB.e
  have HFT : Hid (∀ wx : World, Below w.heap.size w wx → Calls Tryz.prog 33 #[.agg #[vk, vp], .agg #[.string c.f, .int .i64 c.what, .int .i64 c.num, .string c.v]] wx fun e w' => e = .returned (.bool (fitB ks ps c)) ∧ Below wx.heap.size wx w') := fun wx hx => changeFits_any _ _ ks ps c wx (hB.k.keep hx) (hB.p.keep hx) hcf hcv
  have HCL : Hid ((chgsOf es).length ≤ 1048576) := by
    show (chgsOf es).length ≤ 1048576
    rw [chgsOf_len]; exact hsz
  have HBO : Hid (bookB ks ps es = true → ∀ (wx : World) (vl : Value) (Ls : List (List Chg)), Below w.heap.size w wx → ListsAt wx vl Ls → Ls.length ≤ 2 → Ls.flatten.length ≤ 1048577 → (∀ L ∈ Ls, L.length ≤ 1048576) → (∀ L ∈ Ls, ∀ c' ∈ L, fitB ks ps c' = true ∧ (c'.f.size ≤ 1048576 ∧ c'.v.size ≤ 1048576)) → Calls Tryz.prog 34 #[.agg #[vk, vp], vl] wx fun e w' => ∃ x y z, e = .returned (.agg #[x, y, z]) ∧ BookNew (wx.heap.size + 3) w' x y z ks ps ((Ls.flatten.foldl putC []).foldl addE []) ∧ Below wx.heap.size wx w') := fun hbb wx vl Ls hx hL h2 h3 h4 h5 =>
    bookOf_own vk vp vl ks ps Ls wx (hB.k.keep hx) (hB.p.keep hx) (kinds_len hbb).1 (kinds_len hbb).2 (kinds_size hbb).1 (kinds_size hbb).2 hL (by omega) (by omega) (fun L hL => by have := h4 L hL; omega) (fun L hL c' hc' => fit_key (h5 L hL c' hc').1) (fun L hL c' hc' => (h5 L hL c' hc').2)
  obtain ⟨⟨ak, ck, rfl, -, -, -⟩, ⟨ap, cp, rfl, -, -, -⟩, ⟨ae, ce, rfl, -, -, -⟩⟩ := hB
  clear nB sB
  go_enter Tryz.func11, Tryz.ntmps11
  have HX0 : Hid (Blk3 w _ _ _ _) := Blk3.start w (.cells #[.slice ak ks.length ck, .slice ap ps.length cp, .slice ae es.length ce] 39) (.cells #[.string c.f, .int .i64 c.what, .int .i64 c.num, .string c.v] 43) (.cells #[.slice none 0 0, .slice none 0 0, .slice none 0 0] 39)
  go_wp2_with fail
  refine (bookOk_any _ _ _ ks ps es _ (HB.out.keep HX0.out.below) NB.out SB.out).mono ?_
  rintro e w1 ⟨rfl, hb1⟩
  have HX1 : Hid (Blk3 w w1 (.cells #[.slice ak ks.length ck, .slice ap ps.length cp, .slice ae es.length ce] 39) (.cells #[.string c.f, .int .i64 c.what, .int .i64 c.num, .string c.v] 43) (.cells #[.slice none 0 0, .slice none 0 0, .slice none 0 0] 39)) := HX0.out.call hb1
  clear HX0 hb1
  obtain ⟨y0, y1, y2⟩ : w1.cell? ⟨w.heap.size, 0, none⟩ = some (.slice ak ks.length ck) ∧ w1.cell? ⟨w.heap.size, 1, none⟩ = some (.slice ap ps.length cp) ∧ w1.cell? ⟨w.heap.size, 2, none⟩ = some (.slice ae es.length ce) := by simp [World.cell?, HX1.out.b0]
  have hr1 := HX1.out.b2
  cases hbb : bookB ks ps es
  · have HE : Hid (takeC ks ps es c = 1 ∧ takeT ks ps es ks = [] ∧ takeT ks ps es ps = [] ∧ takeE ks ps es c = []) := by
      show _ ∧ _ ∧ _ ∧ _
      unfold takeC takeT takeE; rw [hbb]; exact ⟨rfl, rfl, rfl, rfl⟩
    clear hbb
    go_wp2_with (refine wpList_store_row rfl 39 _ _ rfl (w.heap.size + 1 + 1) #[.slice none 0 0, .slice none 0 0, .slice none 0 0] rfl rfl 39 _ hr1 (by kernel_rfl) rfl (by simp [Value.oneCell']) ?_)
    exact bodyPost_ret (v := .tuple #[.agg #[.slice none 0 0, .slice none 0 0, .slice none 0 0], .int .i64 1]) (by simp [results, Tryz.results11, go_sem, cell_setRow_same _ _ _ _ _ _ _ hr1]) rfl ⟨_, _, _, by rw [HE.out.1], by rw [HE.out.2.1, HE.out.2.2.1, HE.out.2.2.2]; exact BookNew.none _ _, below_setRow HX1.out.below (by omega) _⟩
  have HBB : Hid (bookB ks ps es = true) := hbb
  have HTK : Hid (takeT ks ps es ks = ks ∧ takeT ks ps es ps = ps) := by
    show _ ∧ _
    unfold takeT; rw [hbb]; exact ⟨rfl, rfl⟩
  clear hbb hr1
  go_wp2_with fail
  refine (HCO.out _ HX1.out.below).mono ?_
  rintro e w2 ⟨v, rfl, hv2, hb2⟩
  have HX2 : Hid (Blk3 w w2 (.cells #[.slice ak ks.length ck, .slice ap ps.length cp, .slice ae es.length ce] 39) (.cells #[.string c.f, .int .i64 c.what, .int .i64 c.num, .string c.v] 43) (.cells #[.slice none 0 0, .slice none 0 0, .slice none 0 0] 39)) := HX1.out.call hb2
  obtain ⟨va, vc, rfl⟩ := own_slice hv2
  have HV2 : Hid (ChgsAt w2 (.slice va (chgsOf es).length vc) (chgsOf es)) := hv2.at
  clear HX1 hb2 y0 y1 y2 hv2
  obtain ⟨y0, y1, y2⟩ : w2.cell? ⟨w.heap.size, 0, none⟩ = some (.slice ak ks.length ck) ∧ w2.cell? ⟨w.heap.size, 1, none⟩ = some (.slice ap ps.length cp) ∧ w2.cell? ⟨w.heap.size, 2, none⟩ = some (.slice ae es.length ce) := by simp [World.cell?, HX2.out.b0]
  obtain ⟨x0, x1, x2, x3⟩ : w2.cell? ⟨w.heap.size + 1, 0, none⟩ = some (.string c.f) ∧ w2.cell? ⟨w.heap.size + 1, 1, none⟩ = some (.int .i64 c.what) ∧ w2.cell? ⟨w.heap.size + 1, 2, none⟩ = some (.int .i64 c.num) ∧ w2.cell? ⟨w.heap.size + 1, 3, none⟩ = some (.string c.v) := by simp [World.cell?, HX2.out.b1]
  go_wp2_with fail
  refine (HFT.out _ HX2.out.below).mono ?_
  rintro e w3 ⟨rfl, hb3⟩
  have HX3 : Hid (Blk3 w w3 (.cells #[.slice ak ks.length ck, .slice ap ps.length cp, .slice ae es.length ce] 39) (.cells #[.string c.f, .int .i64 c.what, .int .i64 c.num, .string c.v] 43) (.cells #[.slice none 0 0, .slice none 0 0, .slice none 0 0] 39)) := HX2.out.call hb3
  have HV3 : Hid (ChgsAt w3 (.slice va (chgsOf es).length vc) (chgsOf es)) := HV2.out.keep hb3
  clear HX2 HV2 hb3 y0 y1 y2 x0 x1 x2 x3
  obtain ⟨y0, y1, y2⟩ : w3.cell? ⟨w.heap.size, 0, none⟩ = some (.slice ak ks.length ck) ∧ w3.cell? ⟨w.heap.size, 1, none⟩ = some (.slice ap ps.length cp) ∧ w3.cell? ⟨w.heap.size, 2, none⟩ = some (.slice ae es.length ce) := by simp [World.cell?, HX3.out.b0]
  obtain ⟨x0, x1, x2, x3⟩ : w3.cell? ⟨w.heap.size + 1, 0, none⟩ = some (.string c.f) ∧ w3.cell? ⟨w.heap.size + 1, 1, none⟩ = some (.int .i64 c.what) ∧ w3.cell? ⟨w.heap.size + 1, 2, none⟩ = some (.int .i64 c.num) ∧ w3.cell? ⟨w.heap.size + 1, 3, none⟩ = some (.string c.v) := by simp [World.cell?, HX3.out.b1]
  have HCS : Hid (∀ c' ∈ chgsOf es, fitB ks ps c' = true ∧ (c'.f.size ≤ 1048576 ∧ c'.v.size ≤ 1048576)) := fun c' h => ⟨book_fit HBB.out c' h, chgs_smallT SB.out c' h⟩
  have HONE : Hid (∀ wx : World, Blk3 w wx (.cells #[.slice ak ks.length ck, .slice ap ps.length cp, .slice ae es.length ce] 39) (.cells #[.string c.f, .int .i64 c.what, .int .i64 c.num, .string c.v] 43) (.cells #[.slice none 0 0, .slice none 0 0, .slice none 0 0] 39) → ChgsAt wx (.slice va (chgsOf es).length vc) (chgsOf es) → Calls Tryz.prog 34 #[.agg #[.slice ak ks.length ck, .slice ap ps.length cp], .slice (some ⟨wx.heap.size, 0, none⟩) 1 1] (wx.alloc (.cells #[.slice va (chgsOf es).length vc] 50)) fun e w' => ∃ x y z, e = .returned (.agg #[x, y, z]) ∧ BookNew w.heap.size w' x y z ks ps es ∧ Blk3 w w' (.cells #[.slice ak ks.length ck, .slice ap ps.length cp, .slice ae es.length ce] 39) (.cells #[.string c.f, .int .i64 c.what, .int .i64 c.num, .string c.v] 43) (.cells #[.slice none 0 0, .slice none 0 0, .slice none 0 0] 39) ∧ BookNew (w.heap.size + 3) w' x y z ks ps es) := fun wx hx hv => by
    have hz := hx.z
    have hal : Below wx.heap.size wx (wx.alloc (.cells #[.slice va (chgsOf es).length vc] 50)) := (Below.refl _ _).alloc (Nat.le_refl _) _
    refine (HBO.out HBB.out _ _ [chgsOf es] (below_step hx.below hal) (lists_one (heap_newF wx _) (hv.keep hal)) (by simp) (by have := HCL.out; simp; omega) (fun L h => by simp at h; subst h; exact HCL.out) (fun L h => by simp at h; subst h; exact HCS.out)).mono ?_
    rintro e w' ⟨x, y, z, rfl, hN, hb⟩
    rw [fold_self HBB.out] at hN
    have hs := hal.size
    exact ⟨x, y, z, rfl, hN.mono (by omega), (hx.call hal).call hb, hN.mono (by omega)⟩
  cases hff : fitB ks ps c
  · have HE : Hid (takeC ks ps es c = 2 ∧ takeE ks ps es c = es) := by
      show _ ∧ _
      unfold takeC takeE; rw [HBB.out, hff]; exact ⟨rfl, rfl⟩
    clear hff
    go_wp2_with fail
    refine (HONE.out w3 HX3.out HV3.out).mono ?_
    rintro e w4 ⟨x, y, z, rfl, hN, hX4, hN3⟩
    have hr4 := hX4.b2
    have HX4 : Hid (Below w.heap.size w w4 ∧ w.heap.size + 2 < w4.heap.size) := ⟨hX4.below, hX4.z⟩
    have HN4 : Hid (BookNew (w.heap.size + 3) w4 x y z ks ps es) := hN3
    obtain ⟨a1, c1, a2, c2, a3, c3, rfl, rfl, rfl⟩ := hN.slices
    clear hX4 hN hN3
    go_wp2_with (refine wpList_store_row rfl 39 _ _ rfl (w.heap.size + 1 + 1) #[.slice a1 ks.length c1, .slice a2 ps.length c2, .slice a3 es.length c3] rfl rfl 39 _ hr4 (by kernel_rfl) rfl (by simp [Value.oneCell']) ?_)
    exact bodyPost_ret (v := .tuple #[.agg #[.slice a1 ks.length c1, .slice a2 ps.length c2, .slice a3 es.length c3], .int .i64 2]) (by simp [results, Tryz.results11, go_sem, cell_setRow_same _ _ _ _ _ _ _ hr4]) rfl ⟨_, _, _, by rw [HE.out.1], by rw [HTK.out.1, HTK.out.2, HE.out.2]; exact (HN4.out.far (grown_rowF w4 (w.heap.size + 1 + 1) _) (by omega)).mono (by omega), below_setRow HX4.out.1 (by omega) _⟩
  · have HFF : Hid (fitB ks ps c = true) := hff
    clear hff
    have hal1 : Below w3.heap.size w3 (w3.alloc (.cells #[.string c.f, .int .i64 c.what, .int .i64 c.num, .string c.v] 43)) := (Below.refl _ _).alloc (Nat.le_refl _) _
    have hal2 : Below w3.heap.size w3 ((w3.alloc (.cells #[.string c.f, .int .i64 c.what, .int .i64 c.num, .string c.v] 43)).alloc (.cells #[.slice va (chgsOf es).length vc, .slice (some ⟨w3.heap.size, 0, none⟩) 1 1] 50)) := hal1.alloc hal1.size _
    have HTWO : Hid (Calls Tryz.prog 34 #[.agg #[.slice ak ks.length ck, .slice ap ps.length cp], .slice (some ⟨w3.heap.size + 1, 0, none⟩) 2 2] ((w3.alloc (.cells #[.string c.f, .int .i64 c.what, .int .i64 c.num, .string c.v] 43)).alloc (.cells #[.slice va (chgsOf es).length vc, .slice (some ⟨w3.heap.size, 0, none⟩) 1 1] 50)) fun e w' => ∃ x y z, e = .returned (.agg #[x, y, z]) ∧ BookNew (w.heap.size + 3) w' x y z ks ps (putE es c.f (fldC c)) ∧ Blk3 w w' (.cells #[.slice ak ks.length ck, .slice ap ps.length cp, .slice ae es.length ce] 39) (.cells #[.string c.f, .int .i64 c.what, .int .i64 c.num, .string c.v] 43) (.cells #[.slice none 0 0, .slice none 0 0, .slice none 0 0] 39) ∧ ChgsAt w' (.slice va (chgsOf es).length vc) (chgsOf es)) := by
      have hz := HX3.out.z
      have hb0 := heap_newF w3 (.cells #[.string c.f, .int .i64 c.what, .int .i64 c.num, .string c.v] 43)
      have hb1 := heap_newF (w3.alloc (.cells #[.string c.f, .int .i64 c.what, .int .i64 c.num, .string c.v] 43)) (.cells #[.slice va (chgsOf es).length vc, .slice (some ⟨w3.heap.size, 0, none⟩) 1 1] 50)
      rw [World.size_alloc] at hb1
      have hb0' := (Below.heap_alloc (w3.alloc (.cells #[.string c.f, .int .i64 c.what, .int .i64 c.num, .string c.v] 43)) (.cells #[.slice va (chgsOf es).length vc, .slice (some ⟨w3.heap.size, 0, none⟩) 1 1] 50) w3.heap.size (by simp)).trans hb0
      refine (HBO.out HBB.out _ _ [chgsOf es, [c]] (below_step HX3.out.below hal2) (lists_two hb1 (HV3.out.keep hal2) (chgs_single hb0')) (by simp) (by have := HCL.out; simp; omega) (fun L h => by simp at h; rcases h with rfl | rfl; exact HCL.out; simp) (fun L h => by simp at h; rcases h with rfl | rfl; exact HCS.out; exact fun c' h' => by simp at h'; subst h'; exact ⟨HFF.out, hcf, hcv⟩)).mono ?_
      rintro e w' ⟨x, y, z, rfl, hN, hb⟩
      rw [fold_one c HBB.out] at hN
      have hs := hal2.size
      exact ⟨x, y, z, rfl, hN.mono (by omega), (HX3.out.call hal2).call hb, (HV3.out.keep hal2).keep hb⟩
    clear hal1 hal2
    go_wp2_with fail
    refine HTWO.out.mono ?_
    rintro e w4 ⟨x, y, z, rfl, hN, hX4, hV4⟩
    have HX4 : Hid (Blk3 w w4 (.cells #[.slice ak ks.length ck, .slice ap ps.length cp, .slice ae es.length ce] 39) (.cells #[.string c.f, .int .i64 c.what, .int .i64 c.num, .string c.v] 43) (.cells #[.slice none 0 0, .slice none 0 0, .slice none 0 0] 39)) := hX4
    have HV4 : Hid (ChgsAt w4 (.slice va (chgsOf es).length vc) (chgsOf es)) := hV4
    have HN4 : Hid (BookNew (w.heap.size + 3) w4 x y z ks ps (putE es c.f (fldC c))) := hN
    obtain ⟨a1, c1, a2, c2, a3, c3, rfl, rfl, rfl⟩ := hN.slices
    have HC : Hid (takeC ks ps es c = (bif decide (12 < (putE es c.f (fldC c)).length) then 3 else 0) ∧ takeE ks ps es c = (bif decide (12 < (putE es c.f (fldC c)).length) then es else putE es c.f (fldC c))) := by
      show _ ∧ _
      unfold takeC takeE; rw [HBB.out, HFF.out]; exact ⟨rfl, rfl⟩
    clear hN hX4 hV4 HTWO HX3 HV3 y0 y1 y2 x0 x1 x2 x3
    obtain ⟨y0, y1, y2⟩ : w4.cell? ⟨w.heap.size, 0, none⟩ = some (.slice ak ks.length ck) ∧ w4.cell? ⟨w.heap.size, 1, none⟩ = some (.slice ap ps.length cp) ∧ w4.cell? ⟨w.heap.size, 2, none⟩ = some (.slice ae es.length ce) := by simp [World.cell?, HX4.out.b0]
    have hz4 : w.heap.size < w4.heap.size := by have := HX4.out.z; omega
    have hal : Below w4.heap.size w4 (w4.alloc (.cells #[.slice a1 ks.length c1, .slice a2 ps.length c2, .slice a3 (putE es c.f (fldC c)).length c3] 39)) := (Below.refl _ _).alloc (Nat.le_refl _) _
    have HX5 : Hid (Blk3 w _ _ _ _) := HX4.out.call hal
    have HV5 : Hid (ChgsAt (w4.alloc (.cells #[.slice a1 ks.length c1, .slice a2 ps.length c2, .slice a3 (putE es c.f (fldC c)).length c3] 39)) (.slice va (chgsOf es).length vc) (chgsOf es)) := HV4.out.keep hal
    have HN5 : Hid (BookNew (w.heap.size + 3) (w4.alloc (.cells #[.slice a1 ks.length c1, .slice a2 ps.length c2, .slice a3 (putE es c.f (fldC c)).length c3] 39)) (.slice a1 ks.length c1) (.slice a2 ps.length c2) (.slice a3 (putE es c.f (fldC c)).length c3) ks ps (putE es c.f (fldC c))) := HN4.out.keep hal
    have hr5 := HX5.out.b2
    clear hal HX4 HV4 HN4
    by_cases h12 : 12 < (putE es c.f (fldC c)).length
    · have h12' : (12 : Int) < ((putE es c.f (fldC c)).length : Int) := by omega
      have HE : Hid (takeC ks ps es c = 3 ∧ takeE ks ps es c = es) := by
        show _ ∧ _
        rw [HC.out.1, HC.out.2]; simp [h12]
      clear h12 HC
      have hone := HONE.out _ HX5.out HV5.out
      rw [World.size_alloc] at hone
      have HON5 := toHidF hone
      clear hone
      go_wp2_with fail
      refine HON5.out.mono ?_
      rintro e w6 ⟨x, y, z, rfl, hN, hX6, hN3⟩
      have hr6 := hX6.b2
      have HX6 : Hid (Below w.heap.size w w6 ∧ w.heap.size + 2 < w6.heap.size) := ⟨hX6.below, hX6.z⟩
      have HN6 : Hid (BookNew (w.heap.size + 3) w6 x y z ks ps es) := hN3
      obtain ⟨a4, c4, a5, c5, a6, c6, rfl, rfl, rfl⟩ := hN.slices
      clear hX6 hN hN3 hr5
      go_wp2_with (refine wpList_store_row rfl 39 _ _ rfl (w.heap.size + 1 + 1) #[.slice a4 ks.length c4, .slice a5 ps.length c5, .slice a6 es.length c6] rfl rfl 39 _ hr6 (by kernel_rfl) rfl (by simp [Value.oneCell']) ?_)
      exact bodyPost_ret (v := .tuple #[.agg #[.slice a4 ks.length c4, .slice a5 ps.length c5, .slice a6 es.length c6], .int .i64 3]) (by simp [results, Tryz.results11, go_sem, cell_setRow_same _ _ _ _ _ _ _ hr6]) rfl ⟨_, _, _, by rw [HE.out.1], by rw [HTK.out.1, HTK.out.2, HE.out.2]; exact (HN6.out.far (grown_rowF w6 (w.heap.size + 1 + 1) _) (by omega)).mono (by omega), below_setRow HX6.out.1 (by omega) _⟩
    · have h12' : ¬ (12 : Int) < ((putE es c.f (fldC c)).length : Int) := by omega
      have HE : Hid (takeC ks ps es c = 0 ∧ takeE ks ps es c = putE es c.f (fldC c)) := by
        show _ ∧ _
        rw [HC.out.1, HC.out.2]; simp [h12]
      clear h12 HC
      generalize putE es c.f (fldC c) = es' at *
      go_wp2_with (refine wpList_store_row rfl 39 _ _ rfl (w.heap.size + 1 + 1) #[.slice a1 ks.length c1, .slice a2 ps.length c2, .slice a3 es'.length c3] rfl rfl 39 _ hr5 (by kernel_rfl) rfl (by simp [Value.oneCell']) ?_)
      exact bodyPost_ret (v := .tuple #[.agg #[.slice a1 ks.length c1, .slice a2 ps.length c2, .slice a3 es'.length c3], .int .i64 0]) (by simp [results, Tryz.results11, go_sem, cell_setRow_same _ _ _ _ _ _ _ hr5]) rfl ⟨_, _, _, by rw [HE.out.1], by rw [HTK.out.1, HTK.out.2, HE.out.2]; exact (HN5.out.far (grown_rowF _ (w.heap.size + 1 + 1) _) (by omega)).mono (by omega), below_setRow HX5.out.below (by omega) _⟩
end Go.Proofs.YtfjblenkcfdbiaaGreat

/-
  Rows that are copied whole: what is read, what a new row is; one more entry with its fields.
-/
namespace Go.Proofs.YtfjblenkcfdbiaaGreat
open Go.RowKit
set_option linter.unusedSimpArgs false
set_option linter.unusedVariables false

theorem toHidC {P : Prop} (h : P) : Hid P := h
theorem lt_of_cellA {w : World} {a : Addr} {v : Value} (h : w.cell? a = some v) : a.block < w.heap.size := by
  by_cases hb : a.block < w.heap.size
  · exact hb
  · exfalso
    have hn : w.heap[a.block]? = none := by simp; omega
    simp [World.cell?, hn] at h
theorem own_new0 {W : World} {B base : Nat} {e : TypeId} (h : W.heap[B]? = some (.cells #[] e (0, 0))) (hb : base ≤ B) (size : Nat) : W.ownsRow base e size (.slice (some ⟨B, 0, none⟩) 0 0) 0 [] :=
  ⟨by simp, .inr ⟨B, 0, #[], rfl, hb, h, Nat.le_refl _, Nat.zero_le _, by simp, by simp⟩⟩
theorem rows_idx {α : Type} (f : α → List Value) (c : Nat) (hf : ∀ a, (f a).length = c) : ∀ (l : List α) (i r : Nat), r < c → (l.flatMap f)[i * c + r]? = l[i]?.bind fun a => (f a)[r]?
  | [], i, r, hr => by simp
  | a :: l, 0, r, hr => by
    simp only [List.flatMap_cons, Nat.zero_mul, Nat.zero_add]
    rw [List.getElem?_append_left (by rw [hf]; exact hr)]
    rfl
  | a :: l, i + 1, r, hr => by
    simp only [List.flatMap_cons]
    have h1 : (i + 1) * c + r = c + (i * c + r) := by rw [Nat.succ_mul]; omega
    rw [List.getElem?_append_right (by rw [hf, h1]; omega), hf, h1, Nat.add_sub_cancel_left, rows_idx f c hf l i r hr]
    rfl
theorem rows_len {α : Type} (f : α → List Value) (c : Nat) (hf : ∀ a, (f a).length = c) (l : List α) : (l.flatMap f).length = l.length * c := by
  induction l with
  | nil => simp
  | cons a l ih => rw [List.flatMap_cons, List.length_append, ih, hf, List.length_cons, Nat.succ_mul]; omega
theorem addr_add (b o j : Nat) : (⟨b, o, none⟩ : Addr).add j = ⟨b, o + j, none⟩ := by unfold Addr.add; split <;> simp_all
/-- What is read of a list that lies in memory, row by row. -/
theorem src_of {α : Type} {w : World} {a : Option Addr} {l : List α} (f : α → List Value) (c : Nat) (hc : 0 < c) (hf : ∀ x, (f x).length = c) (h : ∀ i t, l[i]? = some t → ∃ b off, a = some ⟨b, off, none⟩ ∧ ∀ r v, (f t)[r]? = some v → w.cell? ⟨b, off + i * c + r, none⟩ = some v) :
    l.length = 0 ∨ ∃ ad, a = some ad ∧ ∀ j u, (l.flatMap f)[j]? = some u → w.cell? (ad.add j) = some u := by
  cases l with
  | nil => exact .inl rfl
  | cons t l =>
    obtain ⟨b, off, rfl, _⟩ := h 0 t rfl
    refine .inr ⟨_, rfl, fun j u hu => ?_⟩
    have hj : j = (j / c) * c + j % c := by rw [Nat.mul_comm]; exact (Nat.div_add_mod j c).symm
    have hr : j % c < c := Nat.mod_lt _ hc
    rw [hj, rows_idx f c hf _ _ _ hr] at hu
    cases hx : (t :: l)[j / c]? with
    | none => rw [hx] at hu; cases hu
    | some y =>
      rw [hx] at hu
      obtain ⟨b', off', e, hh⟩ := h _ y hx
      cases e
      rw [addr_add]
      have := hh _ u hu
      rw [show off + j = off + j / c * c + j % c by omega]
      exact this
theorem triRow_len (t : Tri) : (triRow t).length = 3 := rfl
theorem fldRow_len (t : Fld) : (fldRow t).length = 3 := rfl
theorem tris_src {w : World} {a : Option Addr} {n c : Nat} {l : List Tri} (h : TrisAt w (.slice a n c) l) : l.length = 0 ∨ ∃ ad, a = some ad ∧ ∀ j u, (triRows l)[j]? = some u → w.cell? (ad.add j) = some u := by
  obtain ⟨a', cap, e, _, _, h⟩ := h
  cases e
  refine src_of triRow 3 (by omega) triRow_len (fun i t ht => ?_)
  obtain ⟨b, off, e, h0, h1, h2⟩ := h i t ht
  refine ⟨b, off, e, fun r v hv => ?_⟩
  match r, hv with
  | 0, hv => cases hv; exact h0
  | 1, hv => cases hv; exact h1
  | 2, hv => cases hv; exact h2
  | r + 3, hv => simp [triRow] at hv
theorem flds_src {w : World} {a : Option Addr} {n c : Nat} {l : List Fld} (h : FldsAt w (.slice a n c) l) : l.length = 0 ∨ ∃ ad, a = some ad ∧ ∀ j u, (fldRows l)[j]? = some u → w.cell? (ad.add j) = some u := by
  obtain ⟨a', cap, e, _, _, h⟩ := h
  cases e
  refine src_of fldRow 3 (by omega) fldRow_len (fun i t ht => ?_)
  obtain ⟨b, off, e, h0, h1, h2⟩ := h i t ht
  refine ⟨b, off, e, fun r v hv => ?_⟩
  match r, hv with
  | 0, hv => cases hv; exact h0
  | 1, hv => cases hv; exact h1
  | 2, hv => cases hv; exact h2
  | r + 3, hv => simp [fldRow] at hv
theorem src_keep {w w' : World} {a : Option Addr} {n : Nat} {xs : List Value} (h : n = 0 ∨ ∃ ad, a = some ad ∧ ∀ j u, xs[j]? = some u → w.cell? (ad.add j) = some u) (hb : Below w.heap.size w w') : n = 0 ∨ ∃ ad, a = some ad ∧ ∀ j u, xs[j]? = some u → w'.cell? (ad.add j) = some u := by
  rcases h with h | ⟨ad, h1, h2⟩
  · exact .inl h
  · refine .inr ⟨ad, h1, fun j u hu => ?_⟩
    have hc := h2 j u hu
    exact (hb.cell (lt_of_cellA hc)).trans hc
theorem tri_one {l : List Tri} : ∀ u ∈ triRows l, u.oneCell' = true := fun u hu => by
  obtain ⟨t, _, ht⟩ := List.mem_flatMap.1 hu
  simp only [triRow, List.mem_cons, List.not_mem_nil, or_false] at ht
  rcases ht with rfl | rfl | rfl <;> rfl
theorem fld_one {l : List Fld} : ∀ u ∈ fldRows l, u.oneCell' = true := fun u hu => by
  obtain ⟨t, _, ht⟩ := List.mem_flatMap.1 hu
  simp only [fldRow, List.mem_cons, List.not_mem_nil, or_false] at ht
  rcases ht with rfl | rfl | rfl <;> rfl
theorem triRows_len (l : List Tri) : (triRows l).length = l.length * 3 := rows_len triRow 3 triRow_len l
theorem fldRows_len (l : List Fld) : (fldRows l).length = l.length * 3 := rows_len fldRow 3 fldRow_len l
/-- One more entry, with fields of its own. -/
theorem PairsNew.pushF {w3 w5 : World} {B : Nat} {o o' fv : Value} {l : List EntV} {e : Ent} {ob : Obj} (h : PairsNew w3 B o l) (hf : w3.ownsRow B 62 3 fv e.fs.length (fldRows e.fs)) (hnew : ∀ k, fv.ownBlock = some k → ∀ p ∈ l, p.2.ownBlock ≠ some k) (hown : w5.ownsRow B 73 2 o' (l.length + 1) (pairRows l ++ [.string e.name, fv])) (hg : (w3.alloc ob).grownBy w5 o.ownBlock) : PairsNew w5 B o' (l ++ [(e, fv)]) := by
  have hb1 : Below w3.heap.size w3 (w3.alloc ob) := (Below.refl _ _).alloc (Nat.le_refl _) ob
  refine ⟨?_, fun p hp => ?_, ?_⟩
  · rw [pairRows_snoc, List.length_append]; exact hown
  · rcases List.mem_append.1 hp with hp | hp
    · exact ownsRow_farF (ownsRow_keep (h.flds p hp) hb1) hg (own_apart h.row (h.flds p hp) (by decide))
    · simp at hp; subst hp
      exact ownsRow_farF (ownsRow_keep hf hb1) hg (own_apart h.row hf (by decide))
  · rw [List.pairwise_append]
    exact ⟨h.apart, by simp, fun p hp q hq k hk => by simp at hq; subst hq; exact fun hk' => hnew k hk' p hp hk⟩
/-- A book's rows lie in no box of a book. -/
theorem BookNew.box {lo X : Nat} {w w' : World} {C : Array Value} {x y z : Value} {ks ps : List Tri} {es : List Ent} (h : BookNew lo w x y z ks ps es) (hX : w.heap[X]? = some (.cells C 39 (0, 0))) (hg : w.grownBy w' (some X)) : BookNew lo w' x y z ks ps es := by
  obtain ⟨h1, h2, l, h3, h4⟩ := h
  refine ⟨ownsRow_farF h1 hg (fun k hk e => own_other h1 hX (by decide) (by rw [← e]; exact hk.symm)), ownsRow_farF h2 hg (fun k hk e => own_other h2 hX (by decide) (by rw [← e]; exact hk.symm)), l, h3, ?_, fun p hp => ?_, h4.apart⟩
  · exact ownsRow_farF h4.row hg (fun k hk e => own_other h4.row hX (by decide) (by rw [← e]; exact hk.symm))
  · exact ownsRow_farF (h4.flds p hp) hg (fun k hk e => own_other (h4.flds p hp) hX (by decide) (by rw [← e]; exact hk.symm))
theorem ownsRow_sameM {W W' : World} {base : Nat} {e : TypeId} {size : Nat} {v : Value} {n : Nat} {xs : List Value} (h : W.ownsRow base e size v n xs) (hs : ∀ k, v.ownBlock = some k → k < W.heap.size → W'.heap[k]? = W.heap[k]?) : W'.ownsRow base e size v n xs := by
  refine ⟨h.1, ?_⟩
  rcases h.2 with h2 | ⟨g, cap, cur, hv, hb, hc, rest⟩
  · exact .inl h2
  · exact .inr ⟨g, cap, cur, hv, hb, (hs g (by rw [hv]; rfl) (Array.getElem?_eq_some_iff.1 hc).1).trans hc, rest⟩
end Go.Proofs.YtfjblenkcfdbiaaGreat

/-
  The law's marks over a whole book of one's own.
-/
namespace Go.Proofs.YtfjblenkcfdbiaaGreat
open Go.RowKit
set_option linter.unusedSimpArgs false
set_option linter.unusedVariables false

theorem pairRows_at {l : List EntV} {i : Nat} {p : EntV} (h : l[i]? = some p) : (pairRows l)[i * 2 + 1]? = some p.2 := by
  unfold pairRows
  rw [rows_idx pairRow 2 (fun _ => rfl) l i 1 (by omega), h]
  rfl
theorem sumN_map {α β : Type} (g : β → Nat) (f : α → β) (l : List α) : sumN g (l.map f) = sumN (fun a => g (f a)) l := by
  induction l with
  | nil => rfl
  | cons a l ih => simp only [List.map_cons, sumN, ih]
theorem Roo.slice {w : World} {v : Value} {n c : Nat} (h : Roo w v n c) : ∃ a cap, v = .slice a n cap := by
  rcases h with ⟨h1, h2⟩ | ⟨b, c, h1, _⟩
  · exact ⟨none, 0, by rw [h1, h2]⟩
  · exact ⟨_, _, h1⟩
theorem RowM.slice {w : World} {v : Value} {n c : Nat} {f : Nat → Value} (h : RowM w v n c f) : ∃ a cap, v = .slice a n cap := by
  rcases h with ⟨h1, h2⟩ | ⟨b, c, h1, _⟩
  · exact ⟨none, 0, by rw [h1, h2]⟩
  · exact ⟨_, _, h1⟩
theorem Roo.lt {w : World} {v : Value} {n c : Nat} (h : Roo w v n c) : ∀ k, v.ownBlock = some k → k < w.heap.size := by
  rcases h with ⟨rfl, _⟩ | ⟨b, c, rfl, hb, _⟩
  · intro k hk; cases hk
  · intro k hk; cases hk; exact hb
def Own2 (x y : Value) (j : Nat) : Prop := x.ownBlock = some j ∨ y.ownBlock = some j
theorem Fr.cell {w w' : World} {S : Nat → Prop} {b o : Nat} {v : Value} (h : Fr w w' S) (hb : b < w.heap.size) (hs : ¬ S b) (hc : w.cell? ⟨b, o, none⟩ = some v) : w'.cell? ⟨b, o, none⟩ = some v :=
  (World.cell?_of_block (w := w) (h.block b hb hs)).trans hc

set_option maxHeartbeats 1600000 in
theorem markBaseG_any (x y : Value) (nk np k : Nat) (w : World) (hx : Roo w x nk 3) (hy : Roo w y np 3) (hap : ∀ j, x.ownBlock = some j → y.ownBlock ≠ some j) (hk : nk ≤ 1048576) (hp : np ≤ 1048576) (hk8 : k ≤ 100000000) :
    Calls Tryz.prog 37 #[.agg #[x, y], .int .i64 k] w fun e w' => e = .returned (.int .i64 ((k + nk * 3 + np * 3 : Nat) : Int)) ∧ RowM w' x nk 3 (mkV 3 patKind k) ∧ RowM w' y np 3 (mkV 3 patPoint (k + nk * 3)) ∧ Fr w w' (Own2 x y) := by
  obtain ⟨ax, cx, rfl⟩ := hx.slice
  obtain ⟨ay, cy, rfl⟩ := hy.slice
  have HX : Hid (Roo w (.slice ax nk cx) nk 3 ∧ Roo w (.slice ay np cy) np 3) := ⟨hx, hy⟩
  have HL : Hid ((∀ k, (Value.slice ax nk cx).ownBlock = some k → k < w.heap.size) ∧ ∀ k, (Value.slice ay np cy).ownBlock = some k → k < w.heap.size) := ⟨hx.lt, hy.lt⟩
  have HAP : Hid (∀ j, (Value.slice ax nk cx).ownBlock = some j → (Value.slice ay np cy).ownBlock ≠ some j) := hap
  have HX0 : Hid (OwnAt w (w.alloc (.cells #[.slice ax nk cx, .slice ay np cy] 36)) [[.slice ax nk cx, .slice ay np cy]]) := (OwnAt.start w).push rfl _ _
  clear hx hy hap
  go_enter Tryz.func37, Tryz.ntmps37
  go_wp2_with fail
  refine (markKindG_any _ nk k _ (HX.out.1.keep HX0.out.below) hk (by omega)).mono ?_
  rintro e w1 ⟨rfl, hM1, hg1⟩
  have hs0 : (w.alloc (.cells #[.slice ax nk cx, .slice ay np cy] 36)).heap.size = w.heap.size + 1 := by simp
  have hne : ∀ j, (Value.slice ax nk cx).ownBlock = some j → ¬ j = w.heap.size := fun j hj => by have := HL.out.1 j hj; omega
  have hblk := hg1.block w.heap.size (by omega) (fun e => hne _ e.symm rfl)
  have y0 : w1.cell? ⟨w.heap.size, 0, none⟩ = some (.slice ax nk cx) := (World.cell?_of_block (w := w.alloc _) hblk).trans (HX0.out.has 0 _ rfl 0 _ rfl).1
  have y1 : w1.cell? ⟨w.heap.size, 1, none⟩ = some (.slice ay np cy) := (World.cell?_of_block (w := w.alloc _) hblk).trans (HX0.out.has 0 _ rfl 1 _ rfl).1
  have HM1 : Hid (RowM w1 (.slice ax nk cx) nk 3 (mkV 3 patKind k)) := hM1
  have HY1 : Hid (Roo w1 (.slice ay np cy) np 3) := (HX.out.2.keep HX0.out.below).far hg1 (fun j hj e => HAP.out j e.symm hj)
  have HF1 : Hid (Fr w w1 (Own2 (.slice ax nk cx) (.slice ay np cy))) := (Fr.call HX0.out.below).trans (Fr.grown hg1 (fun j e => .inl e))
  clear hM1 hg1 hblk hne hs0
  generalize hkk : k + nk * 3 = k1 at *
  have hk1 : k1 ≤ 1000000000 := by omega
  go_wp2_with fail
  refine (markPointG_any _ np k1 _ HY1.out hp hk1).mono ?_
  rintro e w2 ⟨rfl, hM2, hg2⟩
  have HF2 : Hid (RowM w2 (.slice ax nk cx) nk 3 (mkV 3 patKind k) ∧ RowM w2 (.slice ay np cy) np 3 (mkV 3 patPoint k1) ∧ Fr w w2 (Own2 (.slice ax nk cx) (.slice ay np cy))) :=
    ⟨HM1.out.far hg2 (fun j hj e => HAP.out j hj e.symm), hM2, HF1.out.trans (Fr.grown hg2 (fun j e => .inr e))⟩
  clear hM2 hg2
  generalize hk2 : k1 + np * 3 = k2 at *
  go_wp2
  go_ret
  exact ⟨ret_int (by rw [← hk2, ← hkk]), HF2.out.1, by rw [hkk]; exact HF2.out.2.1, HF2.out.2.2⟩
set_option maxHeartbeats 1600000 in
theorem heldBaseG_any (x y : Value) (nk np k : Nat) (w : World) (hx : RowM w x nk 3 (mkV 3 patKind k)) (hy : RowM w y np 3 (mkV 3 patPoint (k + nk * 3))) (hk : nk ≤ 1048576) (hp : np ≤ 1048576) (hk8 : k ≤ 100000000) :
    Calls Tryz.prog 39 #[.agg #[x, y], .int .i64 k] w fun e w' => e = .returned (.int .i64 ((k + nk * 3 + np * 3 : Nat) : Int)) ∧ Below w.heap.size w w' := by
  obtain ⟨ax, cx, rfl⟩ := hx.slice
  obtain ⟨ay, cy, rfl⟩ := hy.slice
  have HX0 : Hid (OwnAt w (w.alloc (.cells #[.slice ax nk cx, .slice ay np cy] 36)) [[.slice ax nk cx, .slice ay np cy]]) := (OwnAt.start w).push rfl _ _
  generalize hkk : k + nk * 3 = k1 at *
  have HX : Hid (RowM w (.slice ax nk cx) nk 3 (mkV 3 patKind k) ∧ RowM w (.slice ay np cy) np 3 (mkV 3 patPoint k1)) := ⟨hx, hy⟩
  have HKK : Hid (k + nk * 3 = k1) := hkk
  have hk1 : k1 ≤ 1000000000 := by omega
  clear hx hy hkk
  go_enter Tryz.func39, Tryz.ntmps39
  go_wp2_with fail
  refine (heldKindG_any _ nk k _ (HX.out.1.keep HX0.out.below) hk (by omega)).mono ?_
  rintro e w1 ⟨rfl, hb1⟩
  rw [HKK.out]
  have HX1 : Hid (OwnAt w w1 _) := HX0.out.call hb1
  have y0 : w1.cell? ⟨w.heap.size, 0, none⟩ = some (.slice ax nk cx) := (HX1.out.has 0 _ rfl 0 _ rfl).1
  have y1 : w1.cell? ⟨w.heap.size, 1, none⟩ = some (.slice ay np cy) := (HX1.out.has 0 _ rfl 1 _ rfl).1
  have hk10 : (0 : Int) ≤ (k1 : Int) := by omega
  clear hb1 HX0
  go_wp2_with fail
  refine (heldPointG_any _ np k1 _ (HX.out.2.keep HX1.out.below) hp hk1).mono ?_
  rintro e w2 ⟨rfl, hb2⟩
  have HB2 : Hid (Below w.heap.size w w2) := below_step HX1.out.below hb2
  clear hb2
  generalize hk2 : k1 + np * 3 = k2 at *
  have hk20 : (0 : Int) ≤ (k2 : Int) := by omega
  go_wp2
  go_ret
  exact ⟨ret_int (by rw [← hk2]), HB2.out⟩
theorem markEntNil_any (k : Nat) (w : World) : Calls Tryz.prog 38 #[.slice none 0 0, .int .i64 k] w fun e w' => e = .returned (.int .i64 k) ∧ w' = w := by
  go_enter Tryz.func38, Tryz.ntmps38
  go_wp2
  go_loopw [1, 5] (fun kk i wr => i = .int .i64 0 ∧ kk = .int .i64 k ∧ wr = w) (fun _ _ _ => 0)
  case atStart => exact ⟨rfl, rfl, rfl⟩
  case round =>
    obtain ⟨rfl, rfl, rfl⟩ := hrel
    go_wp2
    go_ret
    exact ⟨rfl, rfl⟩
theorem heldEntNil_any (k : Nat) (w : World) : Calls Tryz.prog 40 #[.slice none 0 0, .int .i64 k] w fun e w' => e = .returned (.int .i64 k) ∧ w' = w := by
  go_enter Tryz.func40, Tryz.ntmps40
  go_wp2
  go_loopw [1, 5] (fun kk i wr => i = .int .i64 0 ∧ kk = .int .i64 k ∧ wr = w) (fun _ _ _ => 0)
  case atStart => exact ⟨rfl, rfl, rfl⟩
  case round =>
    obtain ⟨rfl, rfl, rfl⟩ := hrel
    go_wp2
    go_ret
    exact ⟨rfl, rfl⟩
/-- Entries that hold their marks. -/
def EntsM (w : World) (z : Value) (l : List EntV) (k : Nat) : Prop := (z = .slice none 0 0 ∧ l = []) ∨ ∃ g cap, z = .slice (some ⟨g, 0, none⟩) l.length cap ∧ EMk w g l k l.length l.length
theorem EntsM.keep {w w' : World} {z : Value} {l : List EntV} {k : Nat} (h : EntsM w z l k) (hb : Below w.heap.size w w') : EntsM w' z l k := by
  rcases h with h | ⟨g, cap, h1, h2⟩
  · exact .inl h
  · exact .inr ⟨g, cap, h1, h2.call hb⟩
def SZ (z : Value) (l : List EntV) (j : Nat) : Prop := z.ownBlock = some j ∨ ∃ p ∈ l, p.2.ownBlock = some j
theorem PairsNew.emk {w : World} {B g n cap : Nat} {l : List EntV} (h : PairsNew w B (.slice (some ⟨g, 0, none⟩) n cap) l) (k : Nat) : EMk w g l k 0 0 := by
  have hr := Roo.of h.row
  obtain ⟨h1, h2⟩ := h.row
  rcases h2 with ⟨h2, _⟩ | ⟨g', cap', cur, hv, hB, hb, hn, hc, hs, ht⟩
  · cases h2
  · cases hv
    rcases hr with ⟨hr, _⟩ | ⟨b, c, hr, hlt, hth⟩
    · cases hr
    · cases hr
      refine ⟨hlt, hth, fun i p hp => ?_, fun i p hp _ => Roo.of (h.flds p (List.mem_of_getElem? hp)), fun i hi => by omega, fun i p hi => by omega⟩
      have hil : i < l.length := (List.getElem?_eq_some_iff.1 hp).1
      have hx : cur.toList[i * 2 + 1]? = some p.2 := by
        have e1 : (cur.toList.take (l.length * 2))[i * 2 + 1]? = cur.toList[i * 2 + 1]? := by rw [List.getElem?_take, if_pos (by omega)]
        rw [← e1, ht]
        exact pairRows_at hp
      simp only [World.cell?, hb, Option.isSome_none, Bool.false_eq_true, if_false]
      simpa using hx
theorem markEntsN_any (z : Value) (k B : Nat) (l : List EntV) (w : World) (h : PairsNew w B z l) (hl : l.length ≤ 1048576) (hsz : sumN (fun p => p.1.fs.length) l ≤ 1048576) (hk8 : k ≤ 200000000) :
    Calls Tryz.prog 38 #[z, .int .i64 k] w fun e w' => e = .returned (.int .i64 ((kAt l k l.length : Nat) : Int)) ∧ EntsM w' z l k ∧ Fr w w' (SZ z l) := by
  rcases h.row.2 with ⟨rfl, h0⟩ | ⟨g, cap, cur, rfl, _⟩
  · obtain rfl : l = [] := List.eq_nil_of_length_eq_zero h0
    refine (markEntNil_any k w).mono ?_
    rintro e w' ⟨rfl, rfl⟩
    exact ⟨by simp [kAt_zero], .inl ⟨rfl, rfl⟩, Fr.refl _ _⟩
  · refine (markEntsG_any g cap k l w (h.emk k) (Ap.of h) hl hsz hk8).mono ?_
    rintro e w' ⟨rfl, hE, hF⟩
    exact ⟨rfl, .inr ⟨g, cap, rfl, hE⟩, hF.mono (fun j hj => by
      rcases hj with rfl | hj
      · exact .inl rfl
      · exact .inr hj)⟩
theorem heldEntsN_any (z : Value) (k : Nat) (l : List EntV) (w : World) (h : EntsM w z l k) (hl : l.length ≤ 1048576) (hsz : sumN (fun p => p.1.fs.length) l ≤ 1048576) (hk8 : k ≤ 200000000) :
    Calls Tryz.prog 40 #[z, .int .i64 k] w fun e w' => e = .returned (.int .i64 ((kAt l k l.length : Nat) : Int)) ∧ Below w.heap.size w w' := by
  rcases h with ⟨rfl, rfl⟩ | ⟨g, cap, rfl, hE⟩
  · refine (heldEntNil_any k w).mono ?_
    rintro e w' ⟨rfl, rfl⟩
    exact ⟨by simp [kAt_zero], Below.refl _ _⟩
  · exact heldEntsG_any g cap k l w hE hl hsz hk8

/-- A book that holds its marks, M the next one. -/
structure BookM (w : World) (x y z : Value) (M : Nat) : Prop where
  has : ∃ nk np l, nk ≤ 1048576 ∧ np ≤ 1048576 ∧ l.length ≤ 1048576 ∧ sumN (fun p : EntV => p.1.fs.length) l ≤ 1048576 ∧ RowM w x nk 3 (mkV 3 patKind 1) ∧ RowM w y np 3 (mkV 3 patPoint (1 + nk * 3)) ∧ EntsM w z l (1 + nk * 3 + np * 3) ∧ M = kAt l (1 + nk * 3 + np * 3) l.length
theorem BookM.keep {w w' : World} {x y z : Value} {M : Nat} (h : BookM w x y z M) (hb : Below w.heap.size w w') : BookM w' x y z M := by
  obtain ⟨nk, np, l, h1, h2, h3, h4, h5, h6, h7, h8⟩ := h.has
  exact ⟨nk, np, l, h1, h2, h3, h4, h5.keep hb, h6.keep hb, h7.keep hb, h8⟩

set_option maxHeartbeats 1600000 in
theorem markBookG_any (x y z : Value) (ks ps : List Tri) (es : List Ent) (lo : Nat) (w : World) (hB : BookNew lo w x y z ks ps es) (hlo : lo ≤ w.heap.size) (lk : ks.length ≤ 1048576) (lp : ps.length ≤ 1048576) (le : es.length ≤ 1048576) (hsz : sumN (fun e => e.fs.length) es ≤ 1048576) :
    Calls Tryz.prog 13 #[.agg #[x, y, z], .int .i64 1] w fun e w' => ∃ M : Nat, e = .returned (.int .i64 (M : Int)) ∧ M ≤ 20000000 ∧ BookM w' x y z M ∧ Below lo w w' ∧ ∀ (X : Nat) (C : Array Value), w.heap[X]? = some (.cells C 39 (0, 0)) → w'.heap[X]? = some (.cells C 39 (0, 0)) := by
  obtain ⟨hk, hp, l, hl, hE⟩ := hB
  obtain ⟨ax, cx, rfl⟩ := own_slice hk
  obtain ⟨ay, cy, rfl⟩ := own_slice hp
  obtain ⟨az, cz, rfl⟩ := own_slice hE.row
  have hll : l.length ≤ 1048576 := by rw [← hl, List.length_map] at le; exact le
  have hls : sumN (fun p : EntV => p.1.fs.length) l ≤ 1048576 := by rw [← hl, sumN_map] at hsz; exact hsz
  have axy : ∀ j, (Value.slice ax ks.length cx).ownBlock = some j → (Value.slice ay ps.length cy).ownBlock ≠ some j := fun j h1 h2 => own_apart hk hp (by decide) j h2 h1.symm
  have axz : ∀ j, (Value.slice ax ks.length cx).ownBlock = some j → (Value.slice az l.length cz).ownBlock ≠ some j := fun j h1 h2 => own_apart hk hE.row (by decide) j h2 h1.symm
  have ayz : ∀ j, (Value.slice ay ps.length cy).ownBlock = some j → (Value.slice az l.length cz).ownBlock ≠ some j := fun j h1 h2 => own_apart hp hE.row (by decide) j h2 h1.symm
  have axf : ∀ p ∈ l, ∀ j, (Value.slice ax ks.length cx).ownBlock = some j → p.2.ownBlock ≠ some j := fun p hpl j h1 h2 => own_apart hk (hE.flds p hpl) (by decide) j h2 h1.symm
  have ayf : ∀ p ∈ l, ∀ j, (Value.slice ay ps.length cy).ownBlock = some j → p.2.ownBlock ≠ some j := fun p hpl j h1 h2 => own_apart hp (hE.flds p hpl) (by decide) j h2 h1.symm
  have HR : Hid (Roo w (.slice ax ks.length cx) ks.length 3 ∧ Roo w (.slice ay ps.length cy) ps.length 3 ∧ PairsNew w lo (.slice az l.length cz) l) := ⟨Roo.of hk, Roo.of hp, hE⟩
  have HAP : Hid ((∀ j, (Value.slice ax ks.length cx).ownBlock = some j → (Value.slice ay ps.length cy).ownBlock ≠ some j) ∧ (∀ j, Own2 (.slice ax ks.length cx) (.slice ay ps.length cy) j → ¬ SZ (.slice az l.length cz) l j)) := by
    refine ⟨axy, fun j h1 h2 => ?_⟩
    rcases h1 with h1 | h1 <;> rcases h2 with h2 | ⟨p, hpl, h2⟩
    · exact axz j h1 h2
    · exact axf p hpl j h1 h2
    · exact ayz j h1 h2
    · exact ayf p hpl j h1 h2
  have HGE : Hid ((∀ j, Own2 (.slice ax ks.length cx) (.slice ay ps.length cy) j → lo ≤ j ∧ j < w.heap.size) ∧ ∀ j, SZ (.slice az l.length cz) l j → lo ≤ j ∧ j < w.heap.size) := by
    refine ⟨fun j h => ?_, fun j h => ?_⟩
    · rcases h with h | h
      · exact ⟨own_ge hk j h, own_lt hk j h⟩
      · exact ⟨own_ge hp j h, own_lt hp j h⟩
    · rcases h with h | ⟨p, hpl, h⟩
      · exact ⟨own_ge hE.row j h, own_lt hE.row j h⟩
      · exact ⟨own_ge (hE.flds p hpl) j h, own_lt (hE.flds p hpl) j h⟩
  have HNB : Hid (∀ (X : Nat) (C : Array Value), w.heap[X]? = some (.cells C 39 (0, 0)) → ¬ Own2 (.slice ax ks.length cx) (.slice ay ps.length cy) X ∧ ¬ SZ (.slice az l.length cz) l X) := fun X C hX => by
    refine ⟨fun h => ?_, fun h => ?_⟩
    · rcases h with h | h
      · exact own_other hk hX (by decide) h.symm
      · exact own_other hp hX (by decide) h.symm
    · rcases h with h | ⟨p, hpl, h⟩
      · exact own_other hE.row hX (by decide) h.symm
      · exact own_other (hE.flds p hpl) hX (by decide) h.symm
  clear hk hp hE axy axz ayz axf ayf hl le hsz
  have HX0 : Hid (OwnAt w (w.alloc (.cells #[.slice ax ks.length cx, .slice ay ps.length cy, .slice az l.length cz] 39)) [[.slice ax ks.length cx, .slice ay ps.length cy, .slice az l.length cz]]) := (OwnAt.start w).push rfl _ _
  go_enter Tryz.func13, Tryz.ntmps13
  go_wp2_with fail
  refine (markBaseG_any _ _ ks.length ps.length 1 _ (HR.out.1.keep HX0.out.below) (HR.out.2.1.keep HX0.out.below) HAP.out.1 lk lp (by omega)).mono ?_
  rintro e w1 ⟨rfl, hMx, hMy, hF⟩
  have hs0 : (w.alloc (.cells #[.slice ax ks.length cx, .slice ay ps.length cy, .slice az l.length cz] 39)).heap.size = w.heap.size + 1 := by simp
  have hnS : ¬ Own2 (.slice ax ks.length cx) (.slice ay ps.length cy) w.heap.size := fun h => by have := (HGE.out.1 _ h).2; omega
  have y0 : w1.cell? ⟨w.heap.size, 0, none⟩ = some (.slice ax ks.length cx) := hF.cell (by omega) hnS (HX0.out.has 0 _ rfl 0 _ rfl).1
  have y1 : w1.cell? ⟨w.heap.size, 1, none⟩ = some (.slice ay ps.length cy) := hF.cell (by omega) hnS (HX0.out.has 0 _ rfl 1 _ rfl).1
  have y2 : w1.cell? ⟨w.heap.size, 2, none⟩ = some (.slice az l.length cz) := hF.cell (by omega) hnS (HX0.out.has 0 _ rfl 2 _ rfl).1
  have HM1 : Hid (RowM w1 (.slice ax ks.length cx) ks.length 3 (mkV 3 patKind 1) ∧ RowM w1 (.slice ay ps.length cy) ps.length 3 (mkV 3 patPoint (1 + ks.length * 3))) := ⟨hMx, hMy⟩
  have HP1 : Hid (PairsNew w1 lo (.slice az l.length cz) l) := by
    have h0 := HR.out.2.2.keep HX0.out.below
    refine ⟨ownsRow_sameM h0.row (fun j hj hlt => hF.block j hlt (fun hS => HAP.out.2 j hS (.inl hj))), fun p hpl => ownsRow_sameM (h0.flds p hpl) (fun j hj hlt => hF.block j hlt (fun hS => HAP.out.2 j hS (.inr ⟨p, hpl, hj⟩))), h0.apart⟩
  have HF1 : Hid (Below lo w w1) := (HX0.out.below.mono hlo).trans (hF.below (by omega) (fun j hj => (HGE.out.1 j hj).1))
  have HBX1 : Hid (∀ (X : Nat) (C : Array Value), w.heap[X]? = some (.cells C 39 (0, 0)) → w1.heap[X]? = some (.cells C 39 (0, 0))) := fun X C hX => by
    have hlt := (Array.getElem?_eq_some_iff.1 hX).1
    exact (hF.block X (by omega) (HNB.out X C hX).1).trans ((HX0.out.below.block X hlt).trans hX)
  clear hMx hMy hF hnS hs0
  generalize hK : 1 + ks.length * 3 + ps.length * 3 = K at *
  go_wp2_with fail
  refine (markEntsN_any _ K lo l _ HP1.out hll hls (by omega)).mono ?_
  rintro e w2 ⟨rfl, hE2, hF2⟩
  have hkl := kAt_le K l.length hll hls
  have HO : Hid (BookM w2 (.slice ax ks.length cx) (.slice ay ps.length cy) (.slice az l.length cz) (kAt l K l.length) ∧ Below lo w w2 ∧ ∀ (X : Nat) (C : Array Value), w.heap[X]? = some (.cells C 39 (0, 0)) → w2.heap[X]? = some (.cells C 39 (0, 0))) := by
    have hsz1 := HF1.out.size
    have hr : ∀ (v : Value), (∀ j, v.ownBlock = some j → Own2 (.slice ax ks.length cx) (.slice ay ps.length cy) j) → ∀ j, v.ownBlock = some j → j < w1.heap.size → w2.heap[j]? = w1.heap[j]? := fun v hv j hj hlt => hF2.block j hlt (fun hS => HAP.out.2 j (hv j hj) hS)
    refine ⟨⟨ks.length, ps.length, l, lk, lp, hll, hls, ?_, ?_, by rw [hK]; exact hE2, by rw [hK]⟩, HF1.out.trans (hF2.below (Nat.le_trans hlo hsz1) (fun j hj => (HGE.out.2 j hj).1)), fun X C hX => (hF2.block X (Nat.lt_of_lt_of_le (Array.getElem?_eq_some_iff.1 hX).1 hsz1) (HNB.out X C hX).2).trans (HBX1.out X C hX)⟩
    · rcases HM1.out.1 with h | ⟨b, cap, hv, hb, hh⟩
      · exact .inl h
      · exact .inr ⟨b, cap, hv, Nat.lt_of_lt_of_le hb hF2.size, fun q hq => (World.cell?_of_block (w := w1) (hr _ (fun j hj => .inl hj) b (by rw [hv]; rfl) hb)).trans (hh q hq)⟩
    · rcases HM1.out.2 with h | ⟨b, cap, hv, hb, hh⟩
      · exact .inl h
      · exact .inr ⟨b, cap, hv, Nat.lt_of_lt_of_le hb hF2.size, fun q hq => (World.cell?_of_block (w := w1) (hr _ (fun j hj => .inr hj) b (by rw [hv]; rfl) hb)).trans (hh q hq)⟩
  clear hE2 hF2
  generalize kAt l K l.length = M at *
  go_wp2
  go_ret
  exact ⟨M, rfl, by omega, HO.out⟩

set_option maxHeartbeats 1600000 in
theorem heldBookG_any (x y z : Value) (M : Nat) (w : World) (hB : BookM w x y z M) :
    Calls Tryz.prog 14 #[.agg #[x, y, z], .int .i64 1] w fun e w' => e = .returned (.int .i64 (M : Int)) ∧ Below w.heap.size w w' := by
  obtain ⟨nk, np, l, lk, lp, ll, ls, hx, hy, hz, hM⟩ := hB.has
  obtain ⟨ax, cx, rfl⟩ := hx.slice
  obtain ⟨ay, cy, rfl⟩ := hy.slice
  obtain ⟨az, cz, rfl⟩ : ∃ a c, z = .slice a l.length c := by
    rcases hz with ⟨h1, h2⟩ | ⟨g, cap, h1, _⟩
    · exact ⟨none, 0, by rw [h1, h2]; rfl⟩
    · exact ⟨_, _, h1⟩
  have HX0 : Hid (OwnAt w (w.alloc (.cells #[.slice ax nk cx, .slice ay np cy, .slice az l.length cz] 39)) [[.slice ax nk cx, .slice ay np cy, .slice az l.length cz]]) := (OwnAt.start w).push rfl _ _
  have HX : Hid (RowM w (.slice ax nk cx) nk 3 (mkV 3 patKind 1) ∧ RowM w (.slice ay np cy) np 3 (mkV 3 patPoint (1 + nk * 3))) := ⟨hx, hy⟩
  generalize hK : 1 + nk * 3 + np * 3 = K at *
  have HZ : Hid (EntsM w (.slice az l.length cz) l K) := hz
  have HM : Hid (M = kAt l K l.length) := hM
  have HK : Hid (1 + nk * 3 + np * 3 = K) := hK
  have hkb : K ≤ 200000000 := by omega
  clear hx hy hz hM hB hK
  go_enter Tryz.func14, Tryz.ntmps14
  go_wp2_with fail
  refine (heldBaseG_any _ _ nk np 1 _ (HX.out.1.keep HX0.out.below) (HX.out.2.keep HX0.out.below) lk lp (by omega)).mono ?_
  rintro e w1 ⟨rfl, hb1⟩
  rw [HK.out]
  have HX1 : Hid (OwnAt w w1 _) := HX0.out.call hb1
  have y0 : w1.cell? ⟨w.heap.size, 0, none⟩ = some (.slice ax nk cx) := (HX1.out.has 0 _ rfl 0 _ rfl).1
  have y1 : w1.cell? ⟨w.heap.size, 1, none⟩ = some (.slice ay np cy) := (HX1.out.has 0 _ rfl 1 _ rfl).1
  have y2 : w1.cell? ⟨w.heap.size, 2, none⟩ = some (.slice az l.length cz) := (HX1.out.has 0 _ rfl 2 _ rfl).1
  have hk10 : (0 : Int) ≤ (K : Int) := by omega
  clear hb1 HX0
  go_wp2_with fail
  refine (heldEntsN_any _ K l _ (HZ.out.keep HX1.out.below) ll ls hkb).mono ?_
  rintro e w2 ⟨rfl, hb2⟩
  have HB2 : Hid (Below w.heap.size w w2) := below_step HX1.out.below hb2
  clear hb2
  rw [← HM.out]
  have hk20 : (0 : Int) ≤ (M : Int) := by omega
  go_wp2
  go_ret
  exact ⟨rfl, HB2.out⟩
end Go.Proofs.YtfjblenkcfdbiaaGreat
