
/-
  The law FnExactPlanAll answers true at every book, and turns nothing that was there.
-/
import Derived.Test.YtehpdbbkbdfobabGreatDoorFa3
import Derived.Test.YtehpdbbkbdfobabGreatDoorFa6
import Derived.Test.YtehpdbbkbdfobabGreatDoorCel1
namespace Go.Proofs.YtehpdbbkbdfobabGreatDoor.Fa
open Go.RowKit Go.Proofs.YtehpdbbkbdfobabGreatDoor Go.Proofs.YtehpdbbkbdfobabGreatDoor.Sd Go.Proofs.YtehpdbbkbdfobabGreatDoor.Pa
set_option linter.unusedSimpArgs false
set_option linter.unusedVariables false

/-- While the law goes on: the book in its box. -/
structure LS (w wx : World) (A : Array Value) : Prop where
  below : Below w.heap.size w wx
  a : wx.heap[w.heap.size]? = some (.cells A 43 (0, 0))
theorem LS.start (w : World) (A : Array Value) : LS w (w.alloc (.cells A 43)) A := ⟨(Below.refl _ _).alloc (Nat.le_refl _) _, Lv.heap_newF w _⟩
theorem LS.z {w wx : World} {A : Array Value} (h : LS w wx A) : w.heap.size < wx.heap.size := lt_of_block h.a
theorem LS.call {w wx wy : World} {A : Array Value} (h : LS w wx A) (hb : Below wx.heap.size wx wy) : LS w wy A := ⟨below_step h.below hb, below_block hb h.a⟩
theorem LS.drew {w wx : World} {A : Array Value} (h : LS w wx A) : LS w wx.drew A := ⟨h.below.drew, h.a⟩
theorem LS.cell {w wx : World} {A : Array Value} (h : LS w wx A) (j : Nat) : wx.cell? ⟨w.heap.size, j, none⟩ = A[j]? := by simp [World.cell?, h.a]
theorem LS.only {w wx wy : World} {A : Array Value} {lo hi : Nat} (h : LS w wx A) (ho : Only lo hi wx wy) (hl : w.heap.size < lo) : LS w wy A :=
  ⟨h.below.trans (ho.below.mono (by omega)), (ho.below.block _ (by omega)).trans h.a⟩
theorem LS.grown {w wx wy : World} {A : Array Value} {row : Option Nat} (h : LS w wx A) (hg : wx.grownBy wy row) (hr : ∀ k, row = some k → w.heap.size < k) : LS w wy A := by
  have hz := h.z
  refine ⟨h.below.grown hg h.below.size (fun k e => by have := hr k e; omega), (hg.block _ (by omega) ?_).trans h.a⟩
  intro e; have := hr _ e.symm; omega
theorem sum_smallS {ks ps : List Tri} {es : List Ent} (h : szBook ks ps es ≤ 1048576) : sumN (fun e => e.fs.length) es ≤ 1048576 := by
  have h1 : ∀ l : List Ent, sumN (fun e => e.fs.length) l ≤ sumN szEnt l := fun l => by
    induction l with
    | nil => exact Nat.le_refl _
    | cons a l ih =>
      simp only [sumN]
      have h3 : a.fs.length ≤ szEnt a := by unfold szEnt szFlds; omega
      omega
  have := h1 es
  unfold szBook szEnts at h
  omega
theorem three_cellsS {w : World} {b : Nat} {x y z : Value} {T : TypeId} (h : w.heap[b]? = some (.cells #[x, y, z] T (0, 0))) : w.cell? ⟨b, 0, none⟩ = some x ∧ w.cell? ⟨b, 1, none⟩ = some y ∧ w.cell? ⟨b, 2, none⟩ = some z := by simp [World.cell?, h]
theorem kAt_bound : ∀ (l : List FlP), (∀ p ∈ l, p.1.L.length ≤ 8) → kAt l l.length ≤ l.length * 15
  | [], _ => by simp [kAt]
  | a :: l, h => by
    have h1 := kAt_bound l (fun p hp => h p (List.mem_cons_of_mem _ hp))
    have h2 := h a (List.mem_cons_self ..)
    simp only [List.length_cons, kAt]
    omega
theorem allR_L {ks ps : List Tri} {es : List Ent} {f : FlV} (h : f ∈ allR ks ps es) : f.L.length ≤ 8 := by
  unfold allR at h
  cases hb : bookB ks ps es with
  | false => rw [hb] at h; simp at h
  | true =>
    rw [hb] at h
    simp only [cond_true] at h
    obtain ⟨e, he, rfl⟩ := List.mem_map.1 h
    have hm : e ∈ es := (List.mem_filter.1 he).1
    show (rtW e).length ≤ 8
    unfold rtW
    cases h4 : lastV e.fs 4 with
    | none => simp
    | some g =>
      have hf : g ∈ e.fs ∧ g.what = 4 := by
        have := last_find (x := 4) e.fs (asc_wlt (book_ascF hb e hm))
        rw [h4] at this
        exact fnd_mem this.symm
      have hv := book_fits hb e hm g hf.1
      rw [hf.2] at hv
      have hr : routeB ps (cutW g.v) = true := by simpa [valB2] using hv
      unfold routeB at hr
      rw [Bool.and_eq_true] at hr
      have := hr.1
      simp [inB] at this
      show (cutW g.v).length ≤ 8
      omega
theorem allR_len (ks ps : List Tri) (es : List Ent) : (allR ks ps es).length ≤ es.length := by
  unfold allR
  cases bookB ks ps es
  · simp
  · simp only [cond_true, List.length_map]; exact allE_len es
theorem FlsP.far {w w' : World} {B : Nat} {v : Value} {l : List FlP} (h : FlsP w B v l) (hv : ∀ k, v.ownBlock = some k → w'.heap[k]? = w.heap[k]?) (hr : ∀ p ∈ l, ∀ k, p.2.ownBlock = some k → w'.heap[k]? = w.heap[k]?) : FlsP w' B v l := by
  have hf : ∀ {e : TypeId} {sz n : Nat} {u : Value} {xs : List Value}, w.ownsRow B e sz u n xs → (∀ k, u.ownBlock = some k → w'.heap[k]? = w.heap[k]?) → w'.ownsRow B e sz u n xs := fun {e sz n u xs} h hs => by
    rcases h with ⟨h0, h | ⟨g, cap, cur, rfl, hb, hc, h1⟩⟩
    · exact ⟨h0, .inl h⟩
    · exact ⟨h0, .inr ⟨g, cap, cur, rfl, hb, (hs g rfl).trans hc, h1⟩⟩
  exact ⟨hf h.row hv, fun p hp => hf (h.rt p hp) (hr p hp), h.ap⟩
/-- All memory of the flights lies ahead of hi. -/
def LtP (v : Value) (l : List FlP) (hi : Nat) : Prop := (∀ k, v.ownBlock = some k → k < hi) ∧ ∀ p ∈ l, ∀ k, p.2.ownBlock = some k → k < hi
def GeP (v : Value) (l : List FlP) (lo : Nat) : Prop := (∀ k, v.ownBlock = some k → lo ≤ k) ∧ ∀ p ∈ l, ∀ k, p.2.ownBlock = some k → lo ≤ k
theorem FlsP.lt {w : World} {B : Nat} {v : Value} {l : List FlP} (h : FlsP w B v l) : LtP v l w.heap.size := ⟨ownF_lt h.row, fun p hp => ownF_lt (h.rt p hp)⟩
theorem FlsP.ge {w : World} {B : Nat} {v : Value} {l : List FlP} (h : FlsP w B v l) : GeP v l B := ⟨ownF_ge h.row, fun p hp => ownF_ge (h.rt p hp)⟩
/-- While the law goes on: what the specification said, the copy, what the program said. -/
structure SX (w w3 w5 w7 wx : World) (A X : Array Value) (v0 vg : Value) (l0 lg : List FlP) : Prop where
  la : LS w wx A
  v : FlsP wx (w.heap.size + 1) v0 l0
  x : wx.heap[w5.heap.size]? = some (.cells X 28 (0, 0))
  t : Below w5.heap.size w5 wx
  g : FlsP wx (w5.heap.size + 1) vg lg
  z : w7.heap.size ≤ wx.heap.size
theorem SX.call {w w3 w5 w7 wx wy : World} {A X : Array Value} {v0 vg : Value} {l0 lg : List FlP} (h : SX w w3 w5 w7 wx A X v0 vg l0 lg) (hb : Below wx.heap.size wx wy) : SX w w3 w5 w7 wy A X v0 vg l0 lg :=
  ⟨h.la.call hb, h.v.keep hb, below_block hb h.x, below_step h.t hb, h.g.keep hb, Nat.le_trans h.z hb.size⟩
theorem SX.drew {w w3 w5 w7 wx : World} {A X : Array Value} {v0 vg : Value} {l0 lg : List FlP} (h : SX w w3 w5 w7 wx A X v0 vg l0 lg) : SX w w3 w5 w7 wx.drew A X v0 vg l0 lg :=
  ⟨h.la.drew, ⟨h.v.row, h.v.rt, h.v.ap⟩, h.x, h.t.drew, ⟨h.g.row, h.g.rt, h.g.ap⟩, h.z⟩
set_option maxRecDepth 100000 in
set_option maxHeartbeats 12800000 in
theorem lawPlanAll_walk (vk vp ve : Value) (ks ps : List Tri) (es : List Ent) (w : World) (hB : BookAt w vk vp ve ks ps es) (nB : BNames ks ps es) (hN : NeedIn w) :
    Calls Tryz.prog 6 #[.agg #[vk, vp, ve]] w fun e w' => e = .returned (.bool true) ∧ Below w.heap.size w w' := by
  have HB : Hid (BookAt w vk vp ve ks ps es) := hB
  have NB : Hid (BNames ks ps es) := nB
  have HN : Hid (NeedIn w) := hN
  obtain ⟨⟨ak, ck, rfl, -, -, -⟩, ⟨ap, cp, rfl, -, -, -⟩, ⟨ae, ce, rfl, -, -, -⟩⟩ := hB
  clear nB hN
  have L0 : Hid (LS w (w.alloc (.cells #[.slice ak ks.length ck, .slice ap ps.length cp, .slice ae es.length ce] 43)) #[.slice ak ks.length ck, .slice ap ps.length cp, .slice ae es.length ce]) := LS.start w _
  go_enter Tryz.func6, Tryz.ntmps6
  go_wp2_with fail
  refine (szBook_any _ _ _ ks ps es _ _ (HB.out.keep L0.out.below) NB.out (by omega) (by omega)).mono ?_
  rintro e w1 ⟨rfl, hb1⟩
  have L1 : Hid (LS w w1 #[.slice ak ks.length ck, .slice ap ps.length cp, .slice ae es.length ce]) := L0.out.call hb1
  clear L0 hb1
  by_cases hsz : (szBook ks ps es : Int) ≤ 1048576
  · rw [szR_pos hsz]
    have SB : Hid (BSmall ks ps es) := BSmall.of (by omega)
    have hsA : sumN (fun e => e.fs.length) es ≤ 1048576 := sum_smallS (ks := ks) (ps := ps) (by omega)
    have hge : 0 ≤ 1048576 - (szBook ks ps es : Int) := by omega
    generalize 1048576 - (szBook ks ps es : Int) = r at *
    clear hsz
    have HAL : Hid (∀ l : List FlP, l.map Prod.fst = allR ks ps es → (∀ p ∈ l, p.1.L.length ≤ 1048576) ∧ 1 + kAt l l.length ≤ 100000000 ∧ l.length ≤ 1048576) := fun l hl => by
      have h8 : ∀ p ∈ l, p.1.L.length ≤ 8 := fun p hp => allR_L (by rw [← hl]; exact List.mem_map_of_mem hp)
      have hn : l.length ≤ es.length := by
        have h1 := congrArg List.length hl
        rw [List.length_map] at h1
        rw [h1]
        exact allR_len ks ps es
      have he := SB.out.e
      have hk := kAt_bound l h8
      exact ⟨fun p hp => by have := h8 p hp; omega, by omega, by omega⟩
    have GB : Hid (∀ wx : World, Below w.heap.size w wx → Calls Tryz.prog 15 #[.agg #[.slice ak ks.length ck, .slice ap ps.length cp, .slice ae es.length ce]] wx fun e w' => ∃ uk up ue, e = .returned (.agg #[uk, up, ue]) ∧ BookOwn (wx.heap.size + 3) w' uk up ue ks ps es ∧ Below wx.heap.size wx w') :=
      fun wx hx => toBook_own _ _ _ ks ps es wx (HB.out.keep hx) SB.out
    have GS : Hid (∀ (x y z : Value) (wx : World), BookAt wx x y z ks ps es → Calls Tryz.prog 22 #[.agg #[x, y, z]] wx fun e w' => ∃ v l, e = .returned v ∧ l.map Prod.fst = allR ks ps es ∧ FlsP w' wx.heap.size v l ∧ Below wx.heap.size wx w') := fun x y z wx h => (specAll_any x y z ks ps es wx h NB.out SB.out SB.out.e).mono fun e w' ⟨v, he, ⟨l, hl, hv⟩, hb⟩ => ⟨v, l, he, hl, hv, hb⟩
    have GI : Hid (∀ (x y z : Value) (wx : World), BookAt wx x y z ks ps es → NeedIn wx → Calls Tryz.prog 23 #[.agg #[x, y, z]] wx fun e w' => ∃ v l, e = .returned v ∧ l.map Prod.fst = allR ks ps es ∧ FlsP w' wx.heap.size v l ∧ Below wx.heap.size wx w') := fun x y z wx h hn => (planAll_any x y z ks ps es wx h NB.out SB.out hn SB.out.e).mono fun e w' ⟨v, he, ⟨l, hl, hv⟩, hb⟩ => ⟨v, l, he, hl, hv, hb⟩
    clear NB
    obtain ⟨y0, y1, y2⟩ : (w1.cell? ⟨w.heap.size, 0, none⟩ = some (.slice ak ks.length ck) ∧ w1.cell? ⟨w.heap.size, 1, none⟩ = some (.slice ap ps.length cp) ∧ w1.cell? ⟨w.heap.size, 2, none⟩ = some (.slice ae es.length ce)) := ⟨L1.out.cell 0, L1.out.cell 1, L1.out.cell 2⟩
    go_wp2_with fail
    refine (GB.out _ L1.out.below).mono ?_
    rintro e w2 ⟨k2, p2, e2, rfl, hB2, hb2⟩
    go_wp2_with fail
    refine (GS.out _ _ _ _ (hB2.at SB.out)).mono ?_
    rintro e w3 ⟨v0, l0, rfl, hl0, hv3, hb3⟩
    have HL0 : Hid (l0.map Prod.fst = allR ks ps es) := hl0
    have L3 : Hid (LS w w3 #[.slice ak ks.length ck, .slice ap ps.length cp, .slice ae es.length ce]) := (L1.out.call hb2).call hb3
    have V3 : Hid (FlsP w3 (w.heap.size + 1) v0 l0) := hv3.mono (by have := L1.out.z; have := hb2.size; omega)
    have VL : Hid (LtP v0 l0 w3.heap.size) := V3.out.lt
    obtain ⟨a0, c0, rfl⟩ := ownF_slice V3.out.row
    clear L1 hb2 hb3 hB2 hv3 y0 y1 y2 GS hl0
    obtain ⟨y0, y1, y2⟩ : (w3.cell? ⟨w.heap.size, 0, none⟩ = some (.slice ak ks.length ck) ∧ w3.cell? ⟨w.heap.size, 1, none⟩ = some (.slice ap ps.length cp) ∧ w3.cell? ⟨w.heap.size, 2, none⟩ = some (.slice ae es.length ce)) := ⟨L3.out.cell 0, L3.out.cell 1, L3.out.cell 2⟩
    have hz3 := L3.out.z
    go_wp2_with fail
    refine (GB.out _ L3.out.below).mono ?_
    rintro e w5 ⟨kv5, pv5, ev5, rfl, hB5, hb5⟩
    obtain ⟨⟨k5, k5', rfl, -, -, -⟩, ⟨p5, p5', rfl, -, -, -⟩, ⟨e5, e5', rfl, -, -, -⟩⟩ := hB5.at SB.out
    have BA5 : Hid (BookAt w5 (.slice k5 ks.length k5') (.slice p5 ps.length p5') (.slice e5 es.length e5') ks ps es) := hB5.at SB.out
    have OW5 : Hid (BookOwn (w3.heap.size + 3) w5 (.slice k5 ks.length k5') (.slice p5 ps.length p5') (.slice e5 es.length e5') ks ps es) := hB5
    have hz5 := hb5.size
    have B6 : Hid (Below w5.heap.size w5 (w5.alloc (.cells #[.slice k5 ks.length k5', .slice p5 ps.length p5', .slice e5 es.length e5'] 28))) := (Below.refl _ _).alloc (Nat.le_refl _) _
    have X6 : Hid ((w5.alloc (.cells #[.slice k5 ks.length k5', .slice p5 ps.length p5', .slice e5 es.length e5'] 28)).heap[w5.heap.size]? = some (.cells #[.slice k5 ks.length k5', .slice p5 ps.length p5', .slice e5 es.length e5'] 28 (0, 0))) := Lv.heap_newF w5 _
    have L6 : Hid (LS w (w5.alloc (.cells #[.slice k5 ks.length k5', .slice p5 ps.length p5', .slice e5 es.length e5'] 28)) #[.slice ak ks.length ck, .slice ap ps.length cp, .slice ae es.length ce]) := (L3.out.call hb5).call B6.out
    have V6 : Hid (FlsP (w5.alloc (.cells #[.slice k5 ks.length k5', .slice p5 ps.length p5', .slice e5 es.length e5'] 28)) (w.heap.size + 1) (.slice a0 l0.length c0) l0) := (V3.out.keep hb5).keep B6.out
    have hz6 : (w5.alloc (.cells #[.slice k5 ks.length k5', .slice p5 ps.length p5', .slice e5 es.length e5'] 28)).heap.size = w5.heap.size + 1 := by simp
    clear hB5 hb5 L3 V3 y0 y1 y2
    obtain ⟨y0, y1, y2⟩ := three_cellsS X6.out
    go_wp2_with fail
    generalize (w5.alloc (.cells #[.slice k5 ks.length k5', .slice p5 ps.length p5', .slice e5 es.length e5'] 28)) = w6 at *
    refine (GI.out _ _ _ _ (BA5.out.keep B6.out) (HN.out.keep L6.out.below)).mono ?_
    rintro e w7 ⟨vg, lg, rfl, hlg, hv7, hb7⟩
    have HLG : Hid (lg.map Prod.fst = allR ks ps es) := hlg
    have hz7 := hb7.size
    have HGL : Hid (LtP vg lg w7.heap.size) := hv7.lt
    obtain ⟨ag, cg, rfl⟩ := ownF_slice hv7.row
    have S8 : Hid (SX w w3 w5 w7 w7 #[.slice ak ks.length ck, .slice ap ps.length cp, .slice ae es.length ce] #[.slice k5 ks.length k5', .slice p5 ps.length p5', .slice e5 es.length e5'] (.slice a0 l0.length c0) (.slice ag lg.length cg) l0 lg) := ⟨L6.out.call hb7, V6.out.keep hb7, below_block hb7 X6.out, below_step B6.out hb7, hz6 ▸ hv7, Nat.le_refl _⟩
    clear L6 V6 X6 B6 hv7 hb7 y0 y1 y2 hlg
    have HEL : Hid (lg.map Prod.fst = l0.map Prod.fst) := by show _ = _; rw [HLG.out, HL0.out]
    go_wp2_with fail
    refine (eqFls_any _ _ lg l0 _ S8.out.g.at S8.out.v.at HEL.out).mono ?_
    rintro e w9 ⟨rfl, hb9⟩
    have S9 : Hid (SX w w3 w5 w7 w9 #[.slice ak ks.length ck, .slice ap ps.length cp, .slice ae es.length ce] #[.slice k5 ks.length k5', .slice p5 ps.length p5', .slice e5 es.length e5'] (.slice a0 l0.length c0) (.slice ag lg.length cg) l0 lg) := S8.out.call hb9
    have hz9 := hb9.size
    clear S8 hb9
    go_wp2
    -- the copy is as it was
    refine wp_region_noPanic ?_
    refine wp_region_held_drew (S := fun wx => (wx.cell? ⟨w5.heap.size, 0, none⟩ = some (.slice k5 ks.length k5') ∧ wx.cell? ⟨w5.heap.size, 1, none⟩ = some (.slice p5 ps.length p5') ∧ wx.cell? ⟨w5.heap.size, 2, none⟩ = some (.slice e5 es.length e5')) ∧ (wx.cell? ⟨w.heap.size, 0, none⟩ = some (.slice ak ks.length ck) ∧ wx.cell? ⟨w.heap.size, 1, none⟩ = some (.slice ap ps.length cp) ∧ wx.cell? ⟨w.heap.size, 2, none⟩ = some (.slice ae es.length ce))) (by kernel_rfl) ?_ (fun hHeld => ?_)
    · exact ⟨three_cellsS S9.out.x, S9.out.la.cell 0, S9.out.la.cell 1, S9.out.la.cell 2⟩
    refine wpAnyH_take (i := 0) (v := ?_) rfl (by kernel_rfl) (by kernel_rfl) (by kernel_rfl) (fun _ _ _ h => h) (Or.inl ⟨by rfl, ?_⟩) (by assumption) ?_
    rotate_left
    · intro w hSw; (try dsimp only at hSw); go_simp; try with_reducible rfl
    simp only [Act.put, List.setIfInBounds_toArray, List.set_cons_zero, List.set_cons_succ, List.getElem_toArray, List.getElem_cons_succ, List.getElem_cons_zero]
    refine wpAnyH_take (i := 1) (v := ?_) rfl (by kernel_rfl) (by kernel_rfl) (by kernel_rfl) (fun _ _ _ h => h) (Or.inl ⟨by rfl, ?_⟩) (by assumption) ?_
    rotate_left
    · intro w hSw; (try dsimp only at hSw); go_simp; try with_reducible rfl
    simp only [Act.put, List.setIfInBounds_toArray, List.set_cons_zero, List.set_cons_succ, List.getElem_toArray, List.getElem_cons_succ, List.getElem_cons_zero]
    refine wpAnyH_ready (rs := [2]) (by kernel_rfl) (by simp) ?_
    refine AllReadyH.cons rfl (fun K hK => ?_) AllReadyH.nil
    go_simp
    refine (GB.out _ S9.out.la.below.drew).mono ?_
    rintro e w10 ⟨kz, pz, ez, rfl, hBz, hb10⟩
    have S10 : Hid (SX w w3 w5 w7 w10 #[.slice ak ks.length ck, .slice ap ps.length cp, .slice ae es.length ce] #[.slice k5 ks.length k5', .slice p5 ps.length p5', .slice e5 es.length e5'] (.slice a0 l0.length c0) (.slice ag lg.length cg) l0 lg) := S9.out.drew.call hb10
    have BZ : Hid (BookAt w10 kz pz ez ks ps es) := hBz.at SB.out
    refine hK.out _ _ ⟨three_cellsS S10.out.x, S10.out.la.cell 0, S10.out.la.cell 1, S10.out.la.cell 2⟩ (fun hHeld12 => ?_)
    clear hK K hHeld hHeld12 S9 hb10 hBz
    refine wpAnyH_ready (rs := [3]) (by kernel_rfl) (by simp) ?_
    refine AllReadyH.cons rfl (fun K hK => ?_) AllReadyH.nil
    go_simp
    refine (eqBook_any _ _ _ _ _ _ ks ps es _ (BA5.out.keep S10.out.t) BZ.out).mono ?_
    rintro e w11 ⟨rfl, hb11⟩
    have S11 : Hid (SX w w3 w5 w7 w11 #[.slice ak ks.length ck, .slice ap ps.length cp, .slice ae es.length ce] #[.slice k5 ks.length k5', .slice p5 ps.length p5', .slice e5 es.length e5'] (.slice a0 l0.length c0) (.slice ag lg.length cg) l0 lg) := S10.out.call hb11
    refine hK.out _ _ ⟨three_cellsS S11.out.x, S11.out.la.cell 0, S11.out.la.cell 1, S11.out.la.cell 2⟩ (fun hHeld13 => ?_)
    clear hK K S10 hb11 BZ
    refine wpAnyH_take (i := 4) (v := ?_) rfl (by kernel_rfl) (by kernel_rfl) (by kernel_rfl) (fun _ _ _ h => h) (Or.inl ⟨by rfl, ?_⟩) (by assumption) ?_
    rotate_left
    · intro w hSw; (try dsimp only at hSw); go_simp; try with_reducible rfl
    simp only [Act.put, List.setIfInBounds_toArray, List.set_cons_zero, List.set_cons_succ, List.getElem_toArray, List.getElem_cons_succ, List.getElem_cons_zero]
    clear hHeld13
    refine wpAnyH_done (by kernel_rfl) ?_ _
    refine NoPanic.normal ?_
    -- marks over the copy
    obtain ⟨x0, x1, x2⟩ := three_cellsS S11.out.x
    go_wp2_with fail
    refine (markBook_any _ _ _ ks ps es 1 (w3.heap.size + 3) w5 _ OW5.out (fun k _ hk => S11.out.t.block k hk) S11.out.t.size SB.out hsA (by omega)).mono ?_
    rintro e w12 ⟨⟨k12, hk12, hk12', rfl⟩, hO12⟩
    have hz11 := S11.out.z
    have hz12 := hO12.below.size
    have L12 : Hid (LS w w12 #[.slice ak ks.length ck, .slice ap ps.length cp, .slice ae es.length ce]) := S11.out.la.only hO12 (by omega)
    have V12 : Hid (FlsP w12 (w.heap.size + 1) (.slice a0 l0.length c0) l0 ∧ FlsP w12 (w5.heap.size + 1) (.slice ag lg.length cg) lg) := ⟨S11.out.v.far (fun k hk => hO12.below.block k (by have := VL.out.1 k hk; omega)) (fun p hp k hk => hO12.below.block k (by have := VL.out.2 p hp k hk; omega)), S11.out.g.far (fun k hk => hO12.up k (by have := S11.out.g.ge.1 k hk; omega) (S11.out.g.lt.1 k hk)) (fun p hp k hk => hO12.up k (by have := S11.out.g.ge.2 p hp k hk; omega) (S11.out.g.lt.2 p hp k hk))⟩
    clear hO12 x0 x1 x2 S11
    have hk12n : ¬ ((k12 : Nat) : Int) < 0 := by omega
    go_wp2_with fail
    refine (eqFls_any _ _ lg l0 _ V12.out.2.at V12.out.1.at HEL.out).mono ?_
    rintro e w13 ⟨rfl, hb13⟩
    have L13 : Hid (LS w w13 #[.slice ak ks.length ck, .slice ap ps.length cp, .slice ae es.length ce]) := L12.out.call hb13
    have V13 : Hid (FlsP w13 (w.heap.size + 1) (.slice a0 l0.length c0) l0 ∧ FlsP w13 (w5.heap.size + 1) (.slice ag lg.length cg) lg) := ⟨V12.out.1.keep hb13, V12.out.2.keep hb13⟩
    have hz13 := hb13.size
    clear L12 V12 hb13
    -- marks over the answer
    obtain ⟨hL1, hL2, hL3⟩ := HAL.out lg HLG.out
    go_wp2_with fail
    refine (markFlsG_any _ lg (w5.heap.size + 1) w7.heap.size 1 _ V13.out.2 HGL.out.1 HGL.out.2 (by omega) hL1 hL2 hL3).mono ?_
    rintro e w14 ⟨rfl, hM14, hO14⟩
    have L14 : Hid (LS w w14 #[.slice ak ks.length ck, .slice ap ps.length cp, .slice ae es.length ce]) := L13.out.only hO14 (by omega)
    have V14 : Hid (FlsP w14 (w.heap.size + 1) (.slice a0 l0.length c0) l0) := V13.out.1.far (fun k hk => hO14.below.block k (by have := VL.out.1 k hk; omega)) (fun p hp k hk => hO14.below.block k (by have := VL.out.2 p hp k hk; omega))
    have M14 : Hid (FlsM w14 (.slice ag lg.length cg) lg 1) := hM14
    clear hM14 hO14 L13 V13
    have GH : Hid (∀ wx : World, FlsM wx (.slice ag lg.length cg) lg 1 → Calls Tryz.prog 26 #[.slice ag lg.length cg, .int .i64 1] wx fun e w' => e = .returned (.int .i64 ((1 + kAt lg lg.length : Nat) : Int)) ∧ Below wx.heap.size wx w') := fun wx h => heldFlsG_any _ lg 1 wx h hL1 hL2 hL3
    generalize hmm : 1 + kAt lg lg.length = mm at *
    have hmn : ¬ ((mm : Nat) : Int) < 0 := by omega
    have hme : (((mm : Nat) : Int) != ((mm : Nat) : Int)) = false := by simp
    go_wp2_with fail
    refine (GH.out _ M14.out).mono ?_
    rintro e w15 ⟨rfl, hb15⟩
    have L15 : Hid (LS w w15 #[.slice ak ks.length ck, .slice ap ps.length cp, .slice ae es.length ce]) := L14.out.call hb15
    have V15 : Hid (FlsP w15 (w.heap.size + 1) (.slice a0 l0.length c0) l0 ∧ FlsM w15 (.slice ag lg.length cg) lg 1) := ⟨V14.out.keep hb15, M14.out.keep hb15⟩
    clear L14 V14 M14 hb15
    -- once more
    obtain ⟨y0, y1, y2⟩ : (w15.cell? ⟨w.heap.size, 0, none⟩ = some (.slice ak ks.length ck) ∧ w15.cell? ⟨w.heap.size, 1, none⟩ = some (.slice ap ps.length cp) ∧ w15.cell? ⟨w.heap.size, 2, none⟩ = some (.slice ae es.length ce)) := ⟨L15.out.cell 0, L15.out.cell 1, L15.out.cell 2⟩
    go_wp2_with fail
    refine (GB.out _ L15.out.below).mono ?_
    rintro e w16 ⟨k3, p3, e3, rfl, hB16, hb16⟩
    have HB16 : Hid (BookAt w16 k3 p3 e3 ks ps es) := hB16.at SB.out
    go_wp2_with fail
    refine (GI.out _ _ _ _ HB16.out (HN.out.keep (below_step L15.out.below hb16))).mono ?_
    rintro e w17 ⟨vh, lh, rfl, hlh, hv17, hb17⟩
    have hbb := below_step hb16 hb17
    have L17 : Hid (LS w w17 #[.slice ak ks.length ck, .slice ap ps.length cp, .slice ae es.length ce]) := L15.out.call hbb
    have V17 : Hid (FlsP w17 (w.heap.size + 1) (.slice a0 l0.length c0) l0 ∧ FlsM w17 (.slice ag lg.length cg) lg 1 ∧ FlsP w17 w16.heap.size vh lh) := ⟨V15.out.1.keep hbb, V15.out.2.keep hbb, hv17⟩
    have HEH : Hid (lh.map Prod.fst = l0.map Prod.fst) := by show _ = _; rw [hlh, HL0.out]
    obtain ⟨ah, ch, rfl⟩ := ownF_slice hv17.row
    clear L15 V15 hb16 hb17 hbb hv17 hB16 HB16 y0 y1 y2 hlh
    go_wp2_with fail
    refine (eqFls_any _ _ lh l0 _ V17.out.2.2.at V17.out.1.at HEH.out).mono ?_
    rintro e w19 ⟨rfl, hb19⟩
    have L19 : Hid (LS w w19 #[.slice ak ks.length ck, .slice ap ps.length cp, .slice ae es.length ce]) := L17.out.call hb19
    have V19 : Hid (FlsM w19 (.slice ag lg.length cg) lg 1) := V17.out.2.1.keep hb19
    clear L17 V17 hb19
    go_wp2_with fail
    refine (GH.out _ V19.out).mono ?_
    rintro e w20 ⟨rfl, hb20⟩
    have L20 : Hid (LS w w20 #[.slice ak ks.length ck, .slice ap ps.length cp, .slice ae es.length ce]) := L19.out.call hb20
    clear hb20
    go_wp2
    go_ret
    exact ⟨rfl, L20.out.below⟩
  · rw [szR_neg hsz]
    go_wp2
    go_ret
    exact ⟨rfl, L1.out.below⟩
end Go.Proofs.YtehpdbbkbdfobabGreatDoor.Fa
