import Derived.Test.YtcmgddnckohdaaaGreatDoorMark4
namespace Go.Proofs.YtcmgddnckohdaaaGreatDoor
open Go.RowKit
set_option linter.unusedSimpArgs false
set_option linter.unusedVariables false
def takeC (ks ps : List Tri) (es : List Ent) (c : Chg) : Int := bif bookB ks ps es then (bif fitB ks ps c then (bif decide (12 < (putE es c.f (fldC c)).length) then 3 else 0) else 2) else 1
def takeE (ks ps : List Tri) (es : List Ent) (c : Chg) : List Ent := bif bookB ks ps es then (bif fitB ks ps c then (bif decide (12 < (putE es c.f (fldC c)).length) then es else putE es c.f (fldC c)) else es) else []
def takeT (ks ps : List Tri) (es : List Ent) (l : List Tri) : List Tri := bif bookB ks ps es then l else []
theorem wf_small {n : Int} (h0 : 0 ≤ n) (h1 : n ≤ 1000000) : (Lit.int .i64 n).wf = true := by
 simp [Lit.wf, IntKind.min, IntKind.max, IntKind.signed, IntKind.bits]
 omega
theorem fit_what {ks ps : List Tri} {c : Chg} (h : fitB ks ps c = true) : 1 ≤ c.what ∧ c.what ≤ 5 := by
 simp only [fitB, Bool.and_eq_true] at h
 have h2 := h.2.2
 unfold valB2 at h2
 repeat' split at h2
 all_goals (first | omega | cases h2)
theorem fit_key {ks ps : List Tri} {c : Chg} (h : fitB ks ps c = true) : KeyFit c ∧ 1 ≤ c.num := by
 have hw := fit_what h
 simp only [fitB, Bool.and_eq_true] at h
 have h1 := h.1
 have h2 := h.2.1
 simp [inB] at h2
 unfold nameB inB at h1
 simp at h1
 exact ⟨⟨by unfold maxLen; omega, wf_small (by omega) (by omega)⟩, h2.1⟩
theorem book_fit {ks ps : List Tri} {es : List Ent} (h : bookB ks ps es = true) : ∀ c ∈ chgsOf es, fitB ks ps c = true := fun c hc => by
 obtain ⟨e, he, hc⟩ := List.mem_flatMap.1 hc
 obtain ⟨f, hf, rfl⟩ := List.mem_map.1 hc
 exact fields_fit (book_fields h he) hf
theorem book_ne {ks ps : List Tri} {es : List Ent} (h : bookB ks ps es = true) : ∀ e ∈ es, e.fs ≠ [] := fun e he hn => by
 have := book_fields h he
 simp [fieldsB, hn] at this
theorem kinds_size {ks ps : List Tri} {es : List Ent} (h : bookB ks ps es = true) : (∀ t ∈ ks, t.s.size ≤ 1048576) ∧ ∀ t ∈ ps, t.s.size ≤ 1048576 := by
 have nm : ∀ (l : List Tri) (m : Nat), namesB l m = true → ∀ t ∈ l, t.s.size ≤ 1048576 := fun l m hl t ht => by
  obtain ⟨i, hi, rfl⟩ := List.getElem_of_mem ht
  unfold namesB at hl
  rw [Bool.and_eq_true] at hl
  have h1 := allB_get hl.2 i hi
  rw [Bool.and_eq_true] at h1
  have h2 := h1.1
  have e0 : at' l i = l[i] := by simp [at', hi]
  rw [e0] at h2
  unfold nameB inB at h2
  simp at h2
  omega
 unfold bookB baseB at h
 simp only [Bool.and_eq_true] at h
 have hk := h.1.1
 have hp := h.1.2
 unfold kindsB at hk
 unfold pointsB at hp
 rw [Bool.and_eq_true] at hk hp
 exact ⟨nm ks 6 hk.1, nm ps 16 hp.1⟩
theorem kinds_len {ks ps : List Tri} {es : List Ent} (h : bookB ks ps es = true) : ks.length ≤ 1048575 ∧ ps.length ≤ 1048575 := by
 unfold bookB baseB at h
 simp only [Bool.and_eq_true] at h
 have hk := h.1.1
 have hp := h.1.2
 unfold kindsB at hk
 unfold pointsB at hp
 rw [Bool.and_eq_true] at hk hp
 have h1 := hk.1
 have h2 := hp.1
 unfold namesB at h1 h2
 rw [Bool.and_eq_true, decide_eq_true_eq] at h1 h2
 exact ⟨by omega, by omega⟩
theorem fold_self {ks ps : List Tri} {es : List Ent} (h : bookB ks ps es = true) : (([chgsOf es] : List (List Chg)).flatten.foldl putC []).foldl addE [] = es := by
 have e1 : ([chgsOf es] : List (List Chg)).flatten = chgsOf es := by simp
 rw [e1, putAll_self (book_sorted h)]
 exact grp_self (book_ne h) (book_apart h)
theorem chg_self (c : Chg) : chgOf c.f (fldC c) = c := rfl
theorem fold_one {ks ps : List Tri} {es : List Ent} (c : Chg) (h : bookB ks ps es = true) : (([chgsOf es, [c]] : List (List Chg)).flatten.foldl putC []).foldl addE [] = putE es c.f (fldC c) := by
 have e1 : ([chgsOf es, [c]] : List (List Chg)).flatten = chgsOf es ++ [c] := by simp
 rw [e1, List.foldl_append, putAll_self (book_sorted h)]
 have := put_entries c.f (fldC c) (book_names h) (book_ne h)
 rw [chg_self] at this
 exact this
theorem chgs_smallT {ks ps : List Tri} {es : List Ent} (h : BSmall ks ps es) : ∀ c ∈ chgsOf es, c.f.size ≤ 1048576 ∧ c.v.size ≤ 1048576 := fun c hc => by
 unfold chgsOf at hc
 rw [List.mem_flatMap] at hc
 obtain ⟨e, he, hc⟩ := hc
 rw [List.mem_map] at hc
 obtain ⟨f, hf, rfl⟩ := hc
 exact ⟨h.n e he, h.v e he f hf⟩
theorem lists_one {w : World} {B : Nat} {v : Value} {L : List Chg} {t : TypeId} (hb : w.heap[B]? = some (.cells #[v] t (0, 0))) (hv : ChgsAt w v L) : ListsAt w (.slice (some ⟨B, 0, none⟩) 1 1) [L] := by
 refine ⟨_, 1, rfl, Nat.le_refl _, by unfold maxLen; omega, fun i M hM => ?_⟩
 match i, hM with
 | 0, hM => simp at hM; subst hM; exact ⟨B, 0, v, rfl, by simp [World.cell?, hb], hv⟩
 | n + 1, hM => simp at hM
theorem lists_two {w : World} {B : Nat} {v u : Value} {L K : List Chg} {t : TypeId} (hb : w.heap[B]? = some (.cells #[v, u] t (0, 0))) (hv : ChgsAt w v L) (hu : ChgsAt w u K) : ListsAt w (.slice (some ⟨B, 0, none⟩) 2 2) [L, K] := by
 refine ⟨_, 2, rfl, Nat.le_refl _, by unfold maxLen; omega, fun i M hM => ?_⟩
 match i, hM with
 | 0, hM => simp at hM; subst hM; exact ⟨B, 0, v, rfl, by simp [World.cell?, hb], hv⟩
 | 1, hM => simp at hM; subst hM; exact ⟨B, 0, u, rfl, by simp [World.cell?, hb], hu⟩
 | n + 2, hM => simp at hM
theorem chgs_single {w : World} {B : Nat} {c : Chg} {t : TypeId} (hb : w.heap[B]? = some (.cells #[.string c.f, .int .i64 c.what, .int .i64 c.num, .string c.v] t (0, 0))) : ChgsAt w (.slice (some ⟨B, 0, none⟩) 1 1) [c] := by
 refine ⟨_, 1, rfl, Nat.le_refl _, by unfold maxLen; omega, fun i d hd => ?_⟩
 match i, hd with
 | 0, hd => simp at hd; subst hd; exact ⟨B, 0, rfl, by simp [World.cell?, hb], by simp [World.cell?, hb], by simp [World.cell?, hb], by simp [World.cell?, hb]⟩
 | n + 1, hd => simp at hd
structure Blk3 (w wr : World) (X Y Z : Obj) : Prop where
 below : Below w.heap.size w wr
 b0 : wr.heap[w.heap.size]? = some X
 b1 : wr.heap[w.heap.size + 1]? = some Y
 b2 : wr.heap[w.heap.size + 1 + 1]? = some Z
theorem Blk3.z {w wr : World} {X Y Z : Obj} (h : Blk3 w wr X Y Z) : w.heap.size + 2 < wr.heap.size := (Array.getElem?_eq_some_iff.1 h.b2).1
theorem Blk3.call {w wr wy : World} {X Y Z : Obj} (h : Blk3 w wr X Y Z) (hb : Below wr.heap.size wr wy) : Blk3 w wy X Y Z := by
 have hz := h.z
 exact ⟨below_step h.below hb, (hb.block _ (by omega)).trans h.b0, (hb.block _ (by omega)).trans h.b1, (hb.block _ (by omega)).trans h.b2⟩
theorem Blk3.start (w : World) (X Y Z : Obj) : Blk3 w (((w.alloc X).alloc Y).alloc Z) X Y Z := by
 have s1 : (w.alloc X).heap.size = w.heap.size + 1 := by simp
 have s2 : ((w.alloc X).alloc Y).heap.size = w.heap.size + 1 + 1 := by simp
 have h1 := heap_newF w X
 have h2 := heap_newF (w.alloc X) Y
 have h3 := heap_newF ((w.alloc X).alloc Y) Z
 rw [s1] at h2
 rw [s2] at h3
 refine ⟨(((Below.refl _ _).alloc (Nat.le_refl _) _).alloc (by simp) _).alloc (by simp; omega) _, ?_, ?_, h3⟩
 ·exact (Below.heap_alloc _ _ _ (by omega)).trans ((Below.heap_alloc _ _ _ (by omega)).trans h1)
 ·exact (Below.heap_alloc _ _ _ (by omega)).trans h2
theorem BookNew.none (lo : Nat) (w : World) : BookNew lo w (.slice none 0 0) (.slice none 0 0) (.slice none 0 0) [] [] [] := ⟨⟨rfl, .inl ⟨rfl, rfl⟩⟩, ⟨rfl, .inl ⟨rfl, rfl⟩⟩, [], rfl, PairsNew.nil _ _⟩
theorem BookNew.slices {lo : Nat} {w : World} {x y z : Value} {ks ps : List Tri} {es : List Ent} (h : BookNew lo w x y z ks ps es) : ∃ a1 c1 a2 c2 a3 c3, x = .slice a1 ks.length c1 ∧ y = .slice a2 ps.length c2 ∧ z = .slice a3 es.length c3 := by
 obtain ⟨h1, h2, l, h3, h4⟩ := h
 obtain ⟨a1, c1, rfl⟩ := own_slice h1
 obtain ⟨a2, c2, rfl⟩ := own_slice h2
 obtain ⟨a3, c3, rfl⟩ := own_slice h4.row
 exact ⟨a1, c1, a2, c2, a3, c3, rfl, rfl, by rw [← h3, List.length_map]⟩
set_option maxHeartbeats 6400000 in
theorem planTake_any (vk vp ve : Value) (ks ps : List Tri) (es : List Ent) (c : Chg) (w : World) (hB : BookAt w vk vp ve ks ps es) (nB : BNames ks ps es) (sB : BSmall ks ps es) (hsz : sumN (fun e => e.fs.length) es ≤ 1048576) (hcf : c.f.size ≤ 1048576) (hcv : c.v.size ≤ 1048576) :
  Calls Tryz.prog 187 #[.agg #[vk, vp, ve], .agg #[.string c.f, .int .i64 c.what, .int .i64 c.num, .string c.v]] w fun e w' => ∃ x y z, e = .returned (.tuple #[.agg #[x, y, z], .int .i64 (takeC ks ps es c)]) ∧ BookNew w.heap.size w' x y z (takeT ks ps es ks) (takeT ks ps es ps) (takeE ks ps es c) ∧ Below w.heap.size w w' := by
 have HB : Hid (BookAt w vk vp ve ks ps es) := hB
 have NB : Hid (BNames ks ps es) := nB
 have SB : Hid (BSmall ks ps es) := sB
 have HCO : Hid (∀ wx : World, Below w.heap.size w wx → Calls Tryz.prog 37 #[.agg #[vk, vp, ve]] wx fun e w' => ∃ v, e = .returned v ∧ ChgsNew w' wx.heap.size v (chgsOf es) ∧ Below wx.heap.size wx w') := fun wx hx => changesOf_any vk vp ve es wx (hB.keep hx).e hsz sB.e
 have HFT : Hid (∀ wx : World, Below w.heap.size w wx → Calls Tryz.prog 81 #[.agg #[vk, vp], .agg #[.string c.f, .int .i64 c.what, .int .i64 c.num, .string c.v]] wx fun e w' => e = .returned (.bool (fitB ks ps c)) ∧ Below wx.heap.size wx w') := fun wx hx => changeFits_any _ _ ks ps c wx (hB.k.keep hx) (hB.p.keep hx) hcf hcv
 have HCL : Hid ((chgsOf es).length ≤ 1048576) := by
  show (chgsOf es).length ≤ 1048576
  rw [chgsOf_len]; exact hsz
 have HBO : Hid (bookB ks ps es = true → ∀ (wx : World) (vl : Value) (Ls : List (List Chg)), Below w.heap.size w wx → ListsAt wx vl Ls → Ls.length ≤ 2 → Ls.flatten.length ≤ 1048577 → (∀ L ∈ Ls, L.length ≤ 1048576) → (∀ L ∈ Ls, ∀ c' ∈ L, fitB ks ps c' = true ∧ (c'.f.size ≤ 1048576 ∧ c'.v.size ≤ 1048576)) → Calls Tryz.prog 216 #[.agg #[vk, vp], vl] wx fun e w' => ∃ x y z, e = .returned (.agg #[x, y, z]) ∧ BookNew (wx.heap.size + 3) w' x y z ks ps ((Ls.flatten.foldl putC []).foldl addE []) ∧ Below wx.heap.size wx w') := fun hbb wx vl Ls hx hL h2 h3 h4 h5 =>
  bookOf_own vk vp vl ks ps Ls wx (hB.k.keep hx) (hB.p.keep hx) (kinds_len hbb).1 (kinds_len hbb).2 (kinds_size hbb).1 (kinds_size hbb).2 hL (by omega) (by omega) (fun L hL => by have := h4 L hL; omega) (fun L hL c' hc' => fit_key (h5 L hL c' hc').1) (fun L hL c' hc' => (h5 L hL c' hc').2)
 obtain ⟨⟨ak, ck, rfl, -, -, -⟩, ⟨ap, cp, rfl, -, -, -⟩, ⟨ae, ce, rfl, -, -, -⟩⟩ := hB
 clear nB sB
 go_enter Tryz.func187, Tryz.ntmps187
 have HX0 : Hid (Blk3 w _ _ _ _) := Blk3.start w (.cells #[.slice ak ks.length ck, .slice ap ps.length cp, .slice ae es.length ce] 30) (.cells #[.string c.f, .int .i64 c.what, .int .i64 c.num, .string c.v] 76) (.cells #[.slice none 0 0, .slice none 0 0, .slice none 0 0] 30)
 go_wp2_with fail
 refine (bookOk_any _ _ _ ks ps es _ (HB.out.keep HX0.out.below) NB.out SB.out).mono ?_
 rintro e w1 ⟨rfl, hb1⟩
 have HX1 : Hid (Blk3 w w1 (.cells #[.slice ak ks.length ck, .slice ap ps.length cp, .slice ae es.length ce] 30) (.cells #[.string c.f, .int .i64 c.what, .int .i64 c.num, .string c.v] 76) (.cells #[.slice none 0 0, .slice none 0 0, .slice none 0 0] 30)) := HX0.out.call hb1
 clear HX0 hb1
 obtain ⟨y0, y1, y2⟩ : w1.cell? ⟨w.heap.size, 0, none⟩ = some (.slice ak ks.length ck) ∧ w1.cell? ⟨w.heap.size, 1, none⟩ = some (.slice ap ps.length cp) ∧ w1.cell? ⟨w.heap.size, 2, none⟩ = some (.slice ae es.length ce) := by simp [World.cell?, HX1.out.b0]
 have hr1 := HX1.out.b2
 cases hbb : bookB ks ps es
 ·have HE : Hid (takeC ks ps es c = 1 ∧ takeT ks ps es ks = [] ∧ takeT ks ps es ps = [] ∧ takeE ks ps es c = []) := by
   show _ ∧ _ ∧ _ ∧ _
   unfold takeC takeT takeE; rw [hbb]; exact ⟨rfl, rfl, rfl, rfl⟩
  clear hbb
  go_wp2_with (refine wpList_store_row rfl 30 _ _ rfl (w.heap.size + 1 + 1) #[.slice none 0 0, .slice none 0 0, .slice none 0 0] rfl rfl 30 _ hr1 (by kernel_rfl) rfl (by simp [Value.oneCell']) ?_)
  exact bodyPost_ret (v := .tuple #[.agg #[.slice none 0 0, .slice none 0 0, .slice none 0 0], .int .i64 1]) (by simp [results, Tryz.results187, go_sem, cell_setRow_same _ _ _ _ _ _ _ hr1]) rfl ⟨_, _, _, by rw [HE.out.1], by rw [HE.out.2.1, HE.out.2.2.1, HE.out.2.2.2]; exact BookNew.none _ _, below_setRow HX1.out.below (by omega) _⟩
 have HBB : Hid (bookB ks ps es = true) := hbb
 have HTK : Hid (takeT ks ps es ks = ks ∧ takeT ks ps es ps = ps) := by
  show _ ∧ _
  unfold takeT; rw [hbb]; exact ⟨rfl, rfl⟩
 clear hbb hr1
 go_wp2_with fail
 refine (HCO.out _ HX1.out.below).mono ?_
 rintro e w2 ⟨v, rfl, hv2, hb2⟩
 have HX2 : Hid (Blk3 w w2 (.cells #[.slice ak ks.length ck, .slice ap ps.length cp, .slice ae es.length ce] 30) (.cells #[.string c.f, .int .i64 c.what, .int .i64 c.num, .string c.v] 76) (.cells #[.slice none 0 0, .slice none 0 0, .slice none 0 0] 30)) := HX1.out.call hb2
 obtain ⟨va, vc, rfl⟩ := own_slice hv2
 have HV2 : Hid (ChgsAt w2 (.slice va (chgsOf es).length vc) (chgsOf es)) := hv2.at
 clear HX1 hb2 y0 y1 y2 hv2
 obtain ⟨y0, y1, y2⟩ : w2.cell? ⟨w.heap.size, 0, none⟩ = some (.slice ak ks.length ck) ∧ w2.cell? ⟨w.heap.size, 1, none⟩ = some (.slice ap ps.length cp) ∧ w2.cell? ⟨w.heap.size, 2, none⟩ = some (.slice ae es.length ce) := by simp [World.cell?, HX2.out.b0]
 obtain ⟨x0, x1, x2, x3⟩ : w2.cell? ⟨w.heap.size + 1, 0, none⟩ = some (.string c.f) ∧ w2.cell? ⟨w.heap.size + 1, 1, none⟩ = some (.int .i64 c.what) ∧ w2.cell? ⟨w.heap.size + 1, 2, none⟩ = some (.int .i64 c.num) ∧ w2.cell? ⟨w.heap.size + 1, 3, none⟩ = some (.string c.v) := by simp [World.cell?, HX2.out.b1]
 go_wp2_with fail
 refine (HFT.out _ HX2.out.below).mono ?_
 rintro e w3 ⟨rfl, hb3⟩
 have HX3 : Hid (Blk3 w w3 (.cells #[.slice ak ks.length ck, .slice ap ps.length cp, .slice ae es.length ce] 30) (.cells #[.string c.f, .int .i64 c.what, .int .i64 c.num, .string c.v] 76) (.cells #[.slice none 0 0, .slice none 0 0, .slice none 0 0] 30)) := HX2.out.call hb3
 have HV3 : Hid (ChgsAt w3 (.slice va (chgsOf es).length vc) (chgsOf es)) := HV2.out.keep hb3
 clear HX2 HV2 hb3 y0 y1 y2 x0 x1 x2 x3
 obtain ⟨y0, y1, y2⟩ : w3.cell? ⟨w.heap.size, 0, none⟩ = some (.slice ak ks.length ck) ∧ w3.cell? ⟨w.heap.size, 1, none⟩ = some (.slice ap ps.length cp) ∧ w3.cell? ⟨w.heap.size, 2, none⟩ = some (.slice ae es.length ce) := by simp [World.cell?, HX3.out.b0]
 obtain ⟨x0, x1, x2, x3⟩ : w3.cell? ⟨w.heap.size + 1, 0, none⟩ = some (.string c.f) ∧ w3.cell? ⟨w.heap.size + 1, 1, none⟩ = some (.int .i64 c.what) ∧ w3.cell? ⟨w.heap.size + 1, 2, none⟩ = some (.int .i64 c.num) ∧ w3.cell? ⟨w.heap.size + 1, 3, none⟩ = some (.string c.v) := by simp [World.cell?, HX3.out.b1]
 have HCS : Hid (∀ c' ∈ chgsOf es, fitB ks ps c' = true ∧ (c'.f.size ≤ 1048576 ∧ c'.v.size ≤ 1048576)) := fun c' h => ⟨book_fit HBB.out c' h, chgs_smallT SB.out c' h⟩
 have HONE : Hid (∀ wx : World, Blk3 w wx (.cells #[.slice ak ks.length ck, .slice ap ps.length cp, .slice ae es.length ce] 30) (.cells #[.string c.f, .int .i64 c.what, .int .i64 c.num, .string c.v] 76) (.cells #[.slice none 0 0, .slice none 0 0, .slice none 0 0] 30) → ChgsAt wx (.slice va (chgsOf es).length vc) (chgsOf es) → Calls Tryz.prog 216 #[.agg #[.slice ak ks.length ck, .slice ap ps.length cp], .slice (some ⟨wx.heap.size, 0, none⟩) 1 1] (wx.alloc (.cells #[.slice va (chgsOf es).length vc] 73)) fun e w' => ∃ x y z, e = .returned (.agg #[x, y, z]) ∧ BookNew w.heap.size w' x y z ks ps es ∧ Blk3 w w' (.cells #[.slice ak ks.length ck, .slice ap ps.length cp, .slice ae es.length ce] 30) (.cells #[.string c.f, .int .i64 c.what, .int .i64 c.num, .string c.v] 76) (.cells #[.slice none 0 0, .slice none 0 0, .slice none 0 0] 30) ∧ BookNew (w.heap.size + 3) w' x y z ks ps es) := fun wx hx hv => by
  have hz := hx.z
  have hal : Below wx.heap.size wx (wx.alloc (.cells #[.slice va (chgsOf es).length vc] 73)) := (Below.refl _ _).alloc (Nat.le_refl _) _
  refine (HBO.out HBB.out _ _ [chgsOf es] (below_step hx.below hal) (lists_one (heap_newF wx _) (hv.keep hal)) (by simp) (by have := HCL.out; simp; omega) (fun L h => by simp at h; subst h; exact HCL.out) (fun L h => by simp at h; subst h; exact HCS.out)).mono ?_
  rintro e w' ⟨x, y, z, rfl, hN, hb⟩
  rw [fold_self HBB.out] at hN
  have hs := hal.size
  exact ⟨x, y, z, rfl, hN.mono (by omega), (hx.call hal).call hb, hN.mono (by omega)⟩
 cases hff : fitB ks ps c
 ·have HE : Hid (takeC ks ps es c = 2 ∧ takeE ks ps es c = es) := by
   show _ ∧ _
   unfold takeC takeE; rw [HBB.out, hff]; exact ⟨rfl, rfl⟩
  clear hff
  go_wp2_with fail
  refine (HONE.out w3 HX3.out HV3.out).mono ?_
  rintro e w4 ⟨x, y, z, rfl, hN, hX4, hN3⟩
  have hr4 := hX4.b2
  have HX4 : Hid (Below w.heap.size w w4 ∧ w.heap.size + 2 < w4.heap.size) := ⟨hX4.below, hX4.z⟩
  have HN4 : Hid (BookNew (w.heap.size + 3) w4 x y z ks ps es) := hN3
  obtain ⟨a1, c1, a2, c2, a3, c3, rfl, rfl, rfl⟩ := hN.slices
  clear hX4 hN hN3
  go_wp2_with (refine wpList_store_row rfl 30 _ _ rfl (w.heap.size + 1 + 1) #[.slice a1 ks.length c1, .slice a2 ps.length c2, .slice a3 es.length c3] rfl rfl 30 _ hr4 (by kernel_rfl) rfl (by simp [Value.oneCell']) ?_)
  exact bodyPost_ret (v := .tuple #[.agg #[.slice a1 ks.length c1, .slice a2 ps.length c2, .slice a3 es.length c3], .int .i64 2]) (by simp [results, Tryz.results187, go_sem, cell_setRow_same _ _ _ _ _ _ _ hr4]) rfl ⟨_, _, _, by rw [HE.out.1], by rw [HTK.out.1, HTK.out.2, HE.out.2]; exact (HN4.out.far (grown_rowF w4 (w.heap.size + 1 + 1) _) (by omega)).mono (by omega), below_setRow HX4.out.1 (by omega) _⟩
 ·have HFF : Hid (fitB ks ps c = true) := hff
  clear hff
  have hal1 : Below w3.heap.size w3 (w3.alloc (.cells #[.string c.f, .int .i64 c.what, .int .i64 c.num, .string c.v] 76)) := (Below.refl _ _).alloc (Nat.le_refl _) _
  have hal2 : Below w3.heap.size w3 ((w3.alloc (.cells #[.string c.f, .int .i64 c.what, .int .i64 c.num, .string c.v] 76)).alloc (.cells #[.slice va (chgsOf es).length vc, .slice (some ⟨w3.heap.size, 0, none⟩) 1 1] 73)) := hal1.alloc hal1.size _
  have HTWO : Hid (Calls Tryz.prog 216 #[.agg #[.slice ak ks.length ck, .slice ap ps.length cp], .slice (some ⟨w3.heap.size + 1, 0, none⟩) 2 2] ((w3.alloc (.cells #[.string c.f, .int .i64 c.what, .int .i64 c.num, .string c.v] 76)).alloc (.cells #[.slice va (chgsOf es).length vc, .slice (some ⟨w3.heap.size, 0, none⟩) 1 1] 73)) fun e w' => ∃ x y z, e = .returned (.agg #[x, y, z]) ∧ BookNew (w.heap.size + 3) w' x y z ks ps (putE es c.f (fldC c)) ∧ Blk3 w w' (.cells #[.slice ak ks.length ck, .slice ap ps.length cp, .slice ae es.length ce] 30) (.cells #[.string c.f, .int .i64 c.what, .int .i64 c.num, .string c.v] 76) (.cells #[.slice none 0 0, .slice none 0 0, .slice none 0 0] 30) ∧ ChgsAt w' (.slice va (chgsOf es).length vc) (chgsOf es)) := by
   have hz := HX3.out.z
   have hb0 := heap_newF w3 (.cells #[.string c.f, .int .i64 c.what, .int .i64 c.num, .string c.v] 76)
   have hb1 := heap_newF (w3.alloc (.cells #[.string c.f, .int .i64 c.what, .int .i64 c.num, .string c.v] 76)) (.cells #[.slice va (chgsOf es).length vc, .slice (some ⟨w3.heap.size, 0, none⟩) 1 1] 73)
   rw [World.size_alloc] at hb1
   have hb0' := (Below.heap_alloc (w3.alloc (.cells #[.string c.f, .int .i64 c.what, .int .i64 c.num, .string c.v] 76)) (.cells #[.slice va (chgsOf es).length vc, .slice (some ⟨w3.heap.size, 0, none⟩) 1 1] 73) w3.heap.size (by simp)).trans hb0
   refine (HBO.out HBB.out _ _ [chgsOf es, [c]] (below_step HX3.out.below hal2) (lists_two hb1 (HV3.out.keep hal2) (chgs_single hb0')) (by simp) (by have := HCL.out; simp; omega) (fun L h => by simp at h; rcases h with rfl | rfl; exact HCL.out; simp) (fun L h => by simp at h; rcases h with rfl | rfl; exact HCS.out; exact fun c' h' => by simp at h'; subst h'; exact ⟨HFF.out, hcf, hcv⟩)).mono ?_
   rintro e w' ⟨x, y, z, rfl, hN, hb⟩
   rw [fold_one c HBB.out] at hN
   have hs := hal2.size
   exact ⟨x, y, z, rfl, hN.mono (by omega), (HX3.out.call hal2).call hb, (HV3.out.keep hal2).keep hb⟩
  clear hal1 hal2
  go_wp2_with fail
  refine HTWO.out.mono ?_
  rintro e w4 ⟨x, y, z, rfl, hN, hX4, hV4⟩
  have HX4 : Hid (Blk3 w w4 (.cells #[.slice ak ks.length ck, .slice ap ps.length cp, .slice ae es.length ce] 30) (.cells #[.string c.f, .int .i64 c.what, .int .i64 c.num, .string c.v] 76) (.cells #[.slice none 0 0, .slice none 0 0, .slice none 0 0] 30)) := hX4
  have HV4 : Hid (ChgsAt w4 (.slice va (chgsOf es).length vc) (chgsOf es)) := hV4
  have HN4 : Hid (BookNew (w.heap.size + 3) w4 x y z ks ps (putE es c.f (fldC c))) := hN
  obtain ⟨a1, c1, a2, c2, a3, c3, rfl, rfl, rfl⟩ := hN.slices
  have HC : Hid (takeC ks ps es c = (bif decide (12 < (putE es c.f (fldC c)).length) then 3 else 0) ∧ takeE ks ps es c = (bif decide (12 < (putE es c.f (fldC c)).length) then es else putE es c.f (fldC c))) := by
   show _ ∧ _
   unfold takeC takeE; rw [HBB.out, HFF.out]; exact ⟨rfl, rfl⟩
  clear hN hX4 hV4 HTWO HX3 HV3 y0 y1 y2 x0 x1 x2 x3
  obtain ⟨y0, y1, y2⟩ : w4.cell? ⟨w.heap.size, 0, none⟩ = some (.slice ak ks.length ck) ∧ w4.cell? ⟨w.heap.size, 1, none⟩ = some (.slice ap ps.length cp) ∧ w4.cell? ⟨w.heap.size, 2, none⟩ = some (.slice ae es.length ce) := by simp [World.cell?, HX4.out.b0]
  have hz4 : w.heap.size < w4.heap.size := by have := HX4.out.z; omega
  have hal : Below w4.heap.size w4 (w4.alloc (.cells #[.slice a1 ks.length c1, .slice a2 ps.length c2, .slice a3 (putE es c.f (fldC c)).length c3] 30)) := (Below.refl _ _).alloc (Nat.le_refl _) _
  have HX5 : Hid (Blk3 w _ _ _ _) := HX4.out.call hal
  have HV5 : Hid (ChgsAt (w4.alloc (.cells #[.slice a1 ks.length c1, .slice a2 ps.length c2, .slice a3 (putE es c.f (fldC c)).length c3] 30)) (.slice va (chgsOf es).length vc) (chgsOf es)) := HV4.out.keep hal
  have HN5 : Hid (BookNew (w.heap.size + 3) (w4.alloc (.cells #[.slice a1 ks.length c1, .slice a2 ps.length c2, .slice a3 (putE es c.f (fldC c)).length c3] 30)) (.slice a1 ks.length c1) (.slice a2 ps.length c2) (.slice a3 (putE es c.f (fldC c)).length c3) ks ps (putE es c.f (fldC c))) := HN4.out.keep hal
  have hr5 := HX5.out.b2
  clear hal HX4 HV4 HN4
  by_cases h12 : 12 < (putE es c.f (fldC c)).length
  ·have h12' : (12 : Int) < ((putE es c.f (fldC c)).length : Int) := by omega
   have HE : Hid (takeC ks ps es c = 3 ∧ takeE ks ps es c = es) := by
    show _ ∧ _
    rw [HC.out.1, HC.out.2]; simp [h12]
   clear h12 HC
   have hone := HONE.out _ HX5.out HV5.out
   rw [World.size_alloc] at hone
   have HON5 := toHidF hone
   clear hone
   go_wp2_with fail
   refine HON5.out.mono ?_
   rintro e w6 ⟨x, y, z, rfl, hN, hX6, hN3⟩
   have hr6 := hX6.b2
   have HX6 : Hid (Below w.heap.size w w6 ∧ w.heap.size + 2 < w6.heap.size) := ⟨hX6.below, hX6.z⟩
   have HN6 : Hid (BookNew (w.heap.size + 3) w6 x y z ks ps es) := hN3
   obtain ⟨a4, c4, a5, c5, a6, c6, rfl, rfl, rfl⟩ := hN.slices
   clear hX6 hN hN3 hr5
   go_wp2_with (refine wpList_store_row rfl 30 _ _ rfl (w.heap.size + 1 + 1) #[.slice a4 ks.length c4, .slice a5 ps.length c5, .slice a6 es.length c6] rfl rfl 30 _ hr6 (by kernel_rfl) rfl (by simp [Value.oneCell']) ?_)
   exact bodyPost_ret (v := .tuple #[.agg #[.slice a4 ks.length c4, .slice a5 ps.length c5, .slice a6 es.length c6], .int .i64 3]) (by simp [results, Tryz.results187, go_sem, cell_setRow_same _ _ _ _ _ _ _ hr6]) rfl ⟨_, _, _, by rw [HE.out.1], by rw [HTK.out.1, HTK.out.2, HE.out.2]; exact (HN6.out.far (grown_rowF w6 (w.heap.size + 1 + 1) _) (by omega)).mono (by omega), below_setRow HX6.out.1 (by omega) _⟩
  ·have h12' : ¬ (12 : Int) < ((putE es c.f (fldC c)).length : Int) := by omega
   have HE : Hid (takeC ks ps es c = 0 ∧ takeE ks ps es c = putE es c.f (fldC c)) := by
    show _ ∧ _
    rw [HC.out.1, HC.out.2]; simp [h12]
   clear h12 HC
   generalize putE es c.f (fldC c) = es' at *
   go_wp2_with (refine wpList_store_row rfl 30 _ _ rfl (w.heap.size + 1 + 1) #[.slice a1 ks.length c1, .slice a2 ps.length c2, .slice a3 es'.length c3] rfl rfl 30 _ hr5 (by kernel_rfl) rfl (by simp [Value.oneCell']) ?_)
   exact bodyPost_ret (v := .tuple #[.agg #[.slice a1 ks.length c1, .slice a2 ps.length c2, .slice a3 es'.length c3], .int .i64 0]) (by simp [results, Tryz.results187, go_sem, cell_setRow_same _ _ _ _ _ _ _ hr5]) rfl ⟨_, _, _, by rw [HE.out.1], by rw [HTK.out.1, HTK.out.2, HE.out.2]; exact (HN5.out.far (grown_rowF _ (w.heap.size + 1 + 1) _) (by omega)).mono (by omega), below_setRow HX5.out.below (by omega) _⟩
end Go.Proofs.YtcmgddnckohdaaaGreatDoor
