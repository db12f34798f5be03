
/-
  The law FnExactPlanOver answers true at every book, name and point, and turns nothing that was there.
-/
import Derived.Test.YtehpdbbkbdfobacGreatDoorPa5
import Derived.Test.YtehpdbbkbdfobacGreatDoorCel1
namespace Go.Proofs.YtehpdbbkbdfobacGreatDoor.Po
open Go.RowKit Go.Proofs.YtehpdbbkbdfobacGreatDoor Go.Proofs.YtehpdbbkbdfobacGreatDoor.Sd Go.Proofs.YtehpdbbkbdfobacGreatDoor.Pa
set_option linter.unusedSimpArgs false
set_option linter.unusedVariables false

/-- While the law goes on: the book in its box. -/
structure LS (w wx : World) (A : Array Value) : Prop where
  below : Below w.heap.size w wx
  a : wx.heap[w.heap.size]? = some (.cells A 28 (0, 0))
theorem LS.start (w : World) (A : Array Value) : LS w (w.alloc (.cells A 28)) A := ⟨(Below.refl _ _).alloc (Nat.le_refl _) _, Lv.heap_newF w _⟩
theorem LS.z {w wx : World} {A : Array Value} (h : LS w wx A) : w.heap.size < wx.heap.size := lt_of_block h.a
theorem LS.call {w wx wy : World} {A : Array Value} (h : LS w wx A) (hb : Below wx.heap.size wx wy) : LS w wy A := ⟨below_step h.below hb, below_block hb h.a⟩
theorem LS.drew {w wx : World} {A : Array Value} (h : LS w wx A) : LS w wx.drew A := ⟨h.below.drew, h.a⟩
theorem LS.cell {w wx : World} {A : Array Value} (h : LS w wx A) (j : Nat) : wx.cell? ⟨w.heap.size, j, none⟩ = A[j]? := by simp [World.cell?, h.a]
theorem three_cellsS {w : World} {b : Nat} {x y z : Value} {T : TypeId} (h : w.heap[b]? = some (.cells #[x, y, z] T (0, 0))) : w.cell? ⟨b, 0, none⟩ = some x ∧ w.cell? ⟨b, 1, none⟩ = some y ∧ w.cell? ⟨b, 2, none⟩ = some z := by simp [World.cell?, h]
/-- While the law goes on: the copy. -/
structure SX (w w5 wx : World) (A X : Array Value) : Prop where
  la : LS w wx A
  x : wx.heap[w5.heap.size]? = some (.cells X 41 (0, 0))
  t : Below w5.heap.size w5 wx
theorem SX.call {w w5 wx wy : World} {A X : Array Value} (h : SX w w5 wx A X) (hb : Below wx.heap.size wx wy) : SX w w5 wy A X :=
  ⟨h.la.call hb, below_block hb h.x, below_step h.t hb⟩
theorem SX.drew {w w5 wx : World} {A X : Array Value} (h : SX w w5 wx A X) : SX w w5 wx.drew A X := ⟨h.la.drew, h.x, h.t.drew⟩
set_option maxRecDepth 100000 in
set_option maxHeartbeats 12800000 in
theorem lawOver_walk (vk vp ve : Value) (ks ps : List Tri) (es : List Ent) (nm pt : ByteArray) (w : World) (hB : BookAt w vk vp ve ks ps es) (nB : BNames ks ps es) (hnm : nm.size ≤ maxLen) (hpt : pt.size ≤ maxLen) (hN : NeedIn w) :
    Calls Tryz.prog 4 #[.agg #[vk, vp, ve], .string nm, .string pt] w fun e w' => e = .returned (.bool true) ∧ Below w.heap.size w w' := by
  have HB : Hid (BookAt w vk vp ve ks ps es) := hB
  have NB : Hid (BNames ks ps es) := nB
  have HN : Hid (NeedIn w) := hN
  obtain ⟨⟨ak, ck, rfl, -, -, -⟩, ⟨ap, cp, rfl, -, -, -⟩, ⟨ae, ce, rfl, -, -, -⟩⟩ := hB
  unfold maxLen at hnm hpt
  clear nB hN
  have L0 : Hid (LS w (w.alloc (.cells #[.slice ak ks.length ck, .slice ap ps.length cp, .slice ae es.length ce] 28)) #[.slice ak ks.length ck, .slice ap ps.length cp, .slice ae es.length ce]) := LS.start w _
  by_cases hnz : (1048576 : Int) < (nm.size : Int)
  · go_enter Tryz.func4, Tryz.ntmps4
    go_wp2
    go_ret
    exact ⟨rfl, L0.out.below⟩
  by_cases hpz : (1048576 : Int) < (pt.size : Int)
  · go_enter Tryz.func4, Tryz.ntmps4
    go_wp2
    go_ret
    exact ⟨rfl, L0.out.below⟩
  go_enter Tryz.func4, Tryz.ntmps4
  go_wp2_with fail
  refine (szBook_any _ _ _ ks ps es _ _ (HB.out.keep L0.out.below) NB.out (by omega) (by omega)).mono ?_
  rintro e w1 ⟨rfl, hb1⟩
  have L1 : Hid (LS w w1 #[.slice ak ks.length ck, .slice ap ps.length cp, .slice ae es.length ce]) := L0.out.call hb1
  clear L0 hb1
  by_cases hsz : (szBook ks ps es : Int) ≤ 1048576
  · rw [szR_pos hsz]
    have SB : Hid (BSmall ks ps es) := BSmall.of (by omega)
    have hge : 0 ≤ 1048576 - (szBook ks ps es : Int) := by omega
    generalize 1048576 - (szBook ks ps es : Int) = r at *
    clear hsz
    have GB : Hid (∀ wx : World, Below w.heap.size w wx → Calls Tryz.prog 8 #[.agg #[.slice ak ks.length ck, .slice ap ps.length cp, .slice ae es.length ce]] wx fun e w' => ∃ uk up ue, e = .returned (.agg #[uk, up, ue]) ∧ BookOwn (wx.heap.size + 3) w' uk up ue ks ps es ∧ Below wx.heap.size wx w') :=
      fun wx hx => toBook_own _ _ _ ks ps es wx (HB.out.keep hx) SB.out
    obtain ⟨gf, hgf⟩ : ∃ x, (overR ks ps es nm pt).1 = x := ⟨_, rfl⟩
    obtain ⟨gb, hgb⟩ : ∃ x, (overR ks ps es nm pt).2.1 = x := ⟨_, rfl⟩
    obtain ⟨gk, hgk⟩ : ∃ x, (overR ks ps es nm pt).2.2 = x := ⟨_, rfl⟩
    have GS : Hid (∀ (x y z : Value) (wx : World), BookAt wx x y z ks ps es → Calls Tryz.prog 15 #[.agg #[x, y, z], .string nm, .string pt] wx fun e w' => e = .returned (.tuple #[.int .i64 gf, .int .i64 gb, .bool gk]) ∧ Below wx.heap.size wx w') := fun x y z wx h => by
      have h1 := specOver_any x y z ks ps es nm pt wx h NB.out SB.out
      rw [hgf, hgb, hgk] at h1
      exact h1
    have GI : Hid (∀ (x y z : Value) (wx : World), BookAt wx x y z ks ps es → NeedIn wx → Calls Tryz.prog 16 #[.agg #[x, y, z], .string nm, .string pt] wx fun e w' => e = .returned (.tuple #[.int .i64 gf, .int .i64 gb, .bool gk]) ∧ Below wx.heap.size wx w') := fun x y z wx h hn => by
      have h1 := planOver_any x y z ks ps es nm pt wx h NB.out SB.out hn
      rw [hgf, hgb, hgk] at h1
      exact h1
    clear hgf hgb hgk NB
    have hg1 : (gf != gf) = false := by simp
    have hg2 : (gb != gb) = false := by simp
    have hg3 : (gk != gk) = false := by cases gk <;> rfl
    obtain ⟨y0, y1, y2⟩ : (w1.cell? ⟨w.heap.size, 0, none⟩ = some (.slice ak ks.length ck) ∧ w1.cell? ⟨w.heap.size, 1, none⟩ = some (.slice ap ps.length cp) ∧ w1.cell? ⟨w.heap.size, 2, none⟩ = some (.slice ae es.length ce)) := ⟨L1.out.cell 0, L1.out.cell 1, L1.out.cell 2⟩
    go_wp2_with fail
    refine (GB.out _ L1.out.below).mono ?_
    rintro e w2 ⟨k2, p2, e2, rfl, hB2, hb2⟩
    go_wp2_with fail
    refine (GS.out _ _ _ _ (hB2.at SB.out)).mono ?_
    rintro e w3 ⟨rfl, hb3⟩
    have L3 : Hid (LS w w3 #[.slice ak ks.length ck, .slice ap ps.length cp, .slice ae es.length ce]) := (L1.out.call hb2).call hb3
    clear L1 hb2 hb3 hB2 y0 y1 y2 GS
    obtain ⟨y0, y1, y2⟩ : (w3.cell? ⟨w.heap.size, 0, none⟩ = some (.slice ak ks.length ck) ∧ w3.cell? ⟨w.heap.size, 1, none⟩ = some (.slice ap ps.length cp) ∧ w3.cell? ⟨w.heap.size, 2, none⟩ = some (.slice ae es.length ce)) := ⟨L3.out.cell 0, L3.out.cell 1, L3.out.cell 2⟩
    go_wp2_with fail
    refine (GB.out _ L3.out.below).mono ?_
    rintro e w5 ⟨kv5, pv5, ev5, rfl, hB5, hb5⟩
    obtain ⟨⟨k5, k5', rfl, -, -, -⟩, ⟨p5, p5', rfl, -, -, -⟩, ⟨e5, e5', rfl, -, -, -⟩⟩ := hB5.at SB.out
    have BA5 : Hid (BookAt w5 (.slice k5 ks.length k5') (.slice p5 ps.length p5') (.slice e5 es.length e5') ks ps es) := hB5.at SB.out
    have B6 : Hid (Below w5.heap.size w5 (w5.alloc (.cells #[.slice k5 ks.length k5', .slice p5 ps.length p5', .slice e5 es.length e5'] 41))) := (Below.refl _ _).alloc (Nat.le_refl _) _
    have S6 : Hid (SX w w5 (w5.alloc (.cells #[.slice k5 ks.length k5', .slice p5 ps.length p5', .slice e5 es.length e5'] 41)) #[.slice ak ks.length ck, .slice ap ps.length cp, .slice ae es.length ce] #[.slice k5 ks.length k5', .slice p5 ps.length p5', .slice e5 es.length e5']) := ⟨(L3.out.call hb5).call B6.out, Lv.heap_newF w5 _, B6.out⟩
    clear hB5 hb5 L3 y0 y1 y2
    obtain ⟨y0, y1, y2⟩ := three_cellsS S6.out.x
    go_wp2_with fail
    generalize (w5.alloc (.cells #[.slice k5 ks.length k5', .slice p5 ps.length p5', .slice e5 es.length e5'] 41)) = w6 at *
    refine (GI.out _ _ _ _ (BA5.out.keep B6.out) (HN.out.keep S6.out.la.below)).mono ?_
    rintro e w9 ⟨rfl, hb7⟩
    have S9 : Hid (SX w w5 w9 #[.slice ak ks.length ck, .slice ap ps.length cp, .slice ae es.length ce] #[.slice k5 ks.length k5', .slice p5 ps.length p5', .slice e5 es.length e5']) := S6.out.call hb7
    clear S6 hb7 y0 y1 y2
    go_wp2
    refine wp_region_noPanic ?_
    refine wp_region_held_drew (S := fun wx => (wx.cell? ⟨w5.heap.size, 0, none⟩ = some (.slice k5 ks.length k5') ∧ wx.cell? ⟨w5.heap.size, 1, none⟩ = some (.slice p5 ps.length p5') ∧ wx.cell? ⟨w5.heap.size, 2, none⟩ = some (.slice e5 es.length e5')) ∧ (wx.cell? ⟨w.heap.size, 0, none⟩ = some (.slice ak ks.length ck) ∧ wx.cell? ⟨w.heap.size, 1, none⟩ = some (.slice ap ps.length cp) ∧ wx.cell? ⟨w.heap.size, 2, none⟩ = some (.slice ae es.length ce))) (by kernel_rfl) ?_ (fun hHeld => ?_)
    · exact ⟨three_cellsS S9.out.x, S9.out.la.cell 0, S9.out.la.cell 1, S9.out.la.cell 2⟩
    refine wpAnyH_take (i := 0) (v := ?_) rfl (by kernel_rfl) (by kernel_rfl) (by kernel_rfl) (fun _ _ _ h => h) (Or.inl ⟨by rfl, ?_⟩) (by assumption) ?_
    rotate_left
    · intro w hSw; (try dsimp only at hSw); go_simp; try with_reducible rfl
    simp only [Act.put, List.setIfInBounds_toArray, List.set_cons_zero, List.set_cons_succ, List.getElem_toArray, List.getElem_cons_succ, List.getElem_cons_zero]
    refine wpAnyH_take (i := 1) (v := ?_) rfl (by kernel_rfl) (by kernel_rfl) (by kernel_rfl) (fun _ _ _ h => h) (Or.inl ⟨by rfl, ?_⟩) (by assumption) ?_
    rotate_left
    · intro w hSw; (try dsimp only at hSw); go_simp; try with_reducible rfl
    simp only [Act.put, List.setIfInBounds_toArray, List.set_cons_zero, List.set_cons_succ, List.getElem_toArray, List.getElem_cons_succ, List.getElem_cons_zero]
    refine wpAnyH_ready (rs := [2]) (by kernel_rfl) (by simp) ?_
    refine AllReadyH.cons rfl (fun K hK => ?_) AllReadyH.nil
    go_simp
    refine (GB.out _ S9.out.la.below.drew).mono ?_
    rintro e w10 ⟨kz, pz, ez, rfl, hBz, hb10⟩
    have S10 : Hid (SX w w5 w10 #[.slice ak ks.length ck, .slice ap ps.length cp, .slice ae es.length ce] #[.slice k5 ks.length k5', .slice p5 ps.length p5', .slice e5 es.length e5']) := S9.out.drew.call hb10
    have BZ : Hid (BookAt w10 kz pz ez ks ps es) := hBz.at SB.out
    refine hK.out _ _ ⟨three_cellsS S10.out.x, S10.out.la.cell 0, S10.out.la.cell 1, S10.out.la.cell 2⟩ (fun hHeld12 => ?_)
    clear hK K hHeld hHeld12 S9 hb10 hBz
    refine wpAnyH_ready (rs := [3]) (by kernel_rfl) (by simp) ?_
    refine AllReadyH.cons rfl (fun K hK => ?_) AllReadyH.nil
    go_simp
    refine (eqBook_any _ _ _ _ _ _ ks ps es _ (BA5.out.keep S10.out.t) BZ.out).mono ?_
    rintro e w11 ⟨rfl, hb11⟩
    have S11 : Hid (SX w w5 w11 #[.slice ak ks.length ck, .slice ap ps.length cp, .slice ae es.length ce] #[.slice k5 ks.length k5', .slice p5 ps.length p5', .slice e5 es.length e5']) := S10.out.call hb11
    refine hK.out _ _ ⟨three_cellsS S11.out.x, S11.out.la.cell 0, S11.out.la.cell 1, S11.out.la.cell 2⟩ (fun hHeld13 => ?_)
    clear hK K S10 hb11 BZ
    refine wpAnyH_take (i := 4) (v := ?_) rfl (by kernel_rfl) (by kernel_rfl) (by kernel_rfl) (fun _ _ _ h => h) (Or.inl ⟨by rfl, ?_⟩) (by assumption) ?_
    rotate_left
    · intro w hSw; (try dsimp only at hSw); go_simp; try with_reducible rfl
    simp only [Act.put, List.setIfInBounds_toArray, List.set_cons_zero, List.set_cons_succ, List.getElem_toArray, List.getElem_cons_succ, List.getElem_cons_zero]
    clear hHeld13
    refine wpAnyH_done (by kernel_rfl) ?_ _
    refine NoPanic.normal ?_
    go_wp2
    go_ret
    exact ⟨rfl, S11.out.la.below⟩
  · rw [szR_neg hsz]
    go_wp2
    go_ret
    exact ⟨rfl, L1.out.below⟩
end Go.Proofs.YtehpdbbkbdfobacGreatDoor.Po
