
/-
  The law FnExactPlanNews answers true at every two books, and turns nothing that was there.
-/
import Derived.Test.YtfjblenkcfdbiaaGreatLawNews0
namespace Go.Proofs.YtfjblenkcfdbiaaGreat
open Go.RowKit
set_option linter.unusedSimpArgs false
set_option linter.unusedVariables false

theorem drewLA {w wx : World} {A B : Array Value} (h : LA w wx A B) : LA w wx.drew A B := ⟨h.below.drew, h.a, h.b⟩
theorem three_cells {w : World} {b : Nat} {x y z : Value} {T : TypeId} (h : w.heap[b]? = some (.cells #[x, y, z] T (0, 0))) : w.cell? ⟨b, 0, none⟩ = some x ∧ w.cell? ⟨b, 1, none⟩ = some y ∧ w.cell? ⟨b, 2, none⟩ = some z := by simp [World.cell?, h]

/-- While the law goes on: the books in their boxes, both copies in theirs, what the specification said, what the program said. -/
structure NB (w w6 w8 wx : World) (A B X Y : Array Value) (v0 vg : Value) (R : List Chg) : Prop where
  la : LA w wx A B
  v : ChgsNew wx (w.heap.size + 2) v0 R
  g : ChgsNew wx (w8.heap.size + 1) vg R
  t6 : Below w6.heap.size w6 wx
  t8 : Below w8.heap.size w8 wx
  xa : wx.heap[w6.heap.size]? = some (.cells X 39 (0, 0))
  xb : wx.heap[w8.heap.size]? = some (.cells Y 39 (0, 0))
theorem NB.call {w w6 w8 wx wy : World} {A B X Y : Array Value} {v0 vg : Value} {R : List Chg} (h : NB w w6 w8 wx A B X Y v0 vg R) (hb : Below wx.heap.size wx wy) : NB w w6 w8 wy A B X Y v0 vg R :=
  ⟨h.la.call hb, ownsRow_keep h.v hb, ownsRow_keep h.g hb, below_step h.t6 hb, below_step h.t8 hb, (hb.block _ (Array.getElem?_eq_some_iff.1 h.xa).1).trans h.xa, (hb.block _ (Array.getElem?_eq_some_iff.1 h.xb).1).trans h.xb⟩
theorem NB.drew {w w6 w8 wx : World} {A B X Y : Array Value} {v0 vg : Value} {R : List Chg} (h : NB w w6 w8 wx A B X Y v0 vg R) : NB w w6 w8 wx.drew A B X Y v0 vg R :=
  ⟨drewLA h.la, h.v, h.g, h.t6.drew, h.t8.drew, h.xa, h.xb⟩

set_option maxRecDepth 100000 in
set_option maxHeartbeats 12800000 in
theorem lawNews_walk (vk vp ve uk up ue : Value) (ks ps ks' ps' : List Tri) (es es' : List Ent) (w : World) (hA : BookAt w vk vp ve ks ps es) (hB : BookAt w uk up ue ks' ps' es') (nA : BNames ks ps es) (nB : BNames ks' ps' es') :
    Calls Tryz.prog 5 #[.agg #[vk, vp, ve], .agg #[uk, up, ue]] w fun e w' => e = .returned (.bool true) ∧ Below w.heap.size w w' := by
  have HA : Hid (BookAt w vk vp ve ks ps es) := hA
  have HB : Hid (BookAt w uk up ue ks' ps' es') := hB
  have NN : Hid (BNames ks ps es ∧ BNames ks' ps' es') := ⟨nA, nB⟩
  obtain ⟨⟨ak, ck, rfl, -, -, -⟩, ⟨ap, cp, rfl, -, -, -⟩, ⟨ae, ce, rfl, -, -, -⟩⟩ := hA
  obtain ⟨⟨ak', ck', rfl, -, -, -⟩, ⟨ap', cp', rfl, -, -, -⟩, ⟨ae', ce', rfl, -, -, -⟩⟩ := hB
  clear nA nB
  have L0 : Hid (LA w ((w.alloc (.cells #[.slice ak ks.length ck, .slice ap ps.length cp, .slice ae es.length ce] 28)).alloc (.cells #[.slice ak' ks'.length ck', .slice ap' ps'.length cp', .slice ae' es'.length ce'] 28)) #[.slice ak ks.length ck, .slice ap ps.length cp, .slice ae es.length ce] #[.slice ak' ks'.length ck', .slice ap' ps'.length cp', .slice ae' es'.length ce']) := LA.start w _ _
  go_enter Tryz.func5, Tryz.ntmps5
  go_wp2_with fail
  refine (szBook_any _ _ _ ks ps es _ _ (HA.out.keep L0.out.below) NN.out.1 (by omega) (by omega)).mono ?_
  rintro e w1 ⟨rfl, hb1⟩
  have L1 : Hid (LA w w1 #[.slice ak ks.length ck, .slice ap ps.length cp, .slice ae es.length ce] #[.slice ak' ks'.length ck', .slice ap' ps'.length cp', .slice ae' es'.length ce']) := L0.out.call hb1
  clear L0 hb1
  by_cases hsz : (szBook ks ps es : Int) ≤ 1048576
  · rw [szR_pos hsz]
    have hszA : szBook ks ps es ≤ 1048576 := by omega
    have hge : 0 ≤ 1048576 - (szBook ks ps es : Int) := by omega
    have hle : 1048576 - (szBook ks ps es : Int) ≤ 1048576 := by omega
    generalize 1048576 - (szBook ks ps es : Int) = r at *
    clear hsz
    obtain ⟨b0, b1, b2⟩ : (w1.cell? ⟨w.heap.size + 1, 0, none⟩ = some (.slice ak' ks'.length ck') ∧ w1.cell? ⟨w.heap.size + 1, 1, none⟩ = some (.slice ap' ps'.length cp') ∧ w1.cell? ⟨w.heap.size + 1, 2, none⟩ = some (.slice ae' es'.length ce')) := ⟨L1.out.cellB 0, L1.out.cellB 1, L1.out.cellB 2⟩
    go_wp2_with fail
    refine (szBook_any _ _ _ ks' ps' es' _ _ (HB.out.keep L1.out.below) NN.out.2 hge hle).mono ?_
    rintro e w2 ⟨rfl, hb2⟩
    have L2 : Hid (LA w w2 #[.slice ak ks.length ck, .slice ap ps.length cp, .slice ae es.length ce] #[.slice ak' ks'.length ck', .slice ap' ps'.length cp', .slice ae' es'.length ce']) := L1.out.call hb2
    clear L1 hb2 b0 b1 b2
    by_cases hsz2 : (szBook ks' ps' es' : Int) ≤ r
    · rw [szR_pos hsz2]
      have hszB : szBook ks' ps' es' ≤ 1048576 := by omega
      have hge2 : 0 ≤ r - (szBook ks' ps' es' : Int) := by omega
      generalize r - (szBook ks' ps' es' : Int) = r2 at *
      clear hsz2 hge hle
      have SS : Hid (BSmall ks ps es ∧ BSmall ks' ps' es') := ⟨BSmall.of hszA, BSmall.of hszB⟩
      have hsA := book_sum hszA
      have hsB := book_sum hszB
      have GA : Hid (∀ wx : World, Below w.heap.size w wx → Calls Tryz.prog 9 #[.agg #[.slice ak ks.length ck, .slice ap ps.length cp, .slice ae es.length ce]] wx fun e w' => ∃ uk up ue, e = .returned (.agg #[uk, up, ue]) ∧ BookOwn (wx.heap.size + 3) w' uk up ue ks ps es ∧ Below wx.heap.size wx w') := fun wx hx => toBook_own _ _ _ ks ps es wx (HA.out.keep hx) SS.out.1
      have GB : Hid (∀ wx : World, Below w.heap.size w wx → Calls Tryz.prog 9 #[.agg #[.slice ak' ks'.length ck', .slice ap' ps'.length cp', .slice ae' es'.length ce']] wx fun e w' => ∃ uk up ue, e = .returned (.agg #[uk, up, ue]) ∧ BookOwn (wx.heap.size + 3) w' uk up ue ks' ps' es' ∧ Below wx.heap.size wx w') := fun wx hx => toBook_own _ _ _ ks' ps' es' wx (HB.out.keep hx) SS.out.2
      have GS : Hid (∀ (x y z x' y' z' : Value) (wx : World), BookAt wx x y z ks ps es → BookAt wx x' y' z' ks' ps' es' → Calls Tryz.prog 17 #[.agg #[x, y, z], .agg #[x', y', z']] wx fun e w' => ∃ v, e = .returned v ∧ ChgsNew w' wx.heap.size v (bif bookB ks ps es && bookB ks' ps' es' then (chgsOf es').filter fun c => !hasS es c else []) ∧ Below wx.heap.size wx w') := fun _ _ _ _ _ _ wx h h' => specNews_any _ _ _ _ _ _ ks ps ks' ps' es es' wx h h' NN.out.1 NN.out.2 SS.out.1 SS.out.2 hsB
      have GI : Hid (∀ (x y z x' y' z' : Value) (wx : World), BookAt wx x y z ks ps es → BookAt wx x' y' z' ks' ps' es' → Calls Tryz.prog 18 #[.agg #[x, y, z], .agg #[x', y', z']] wx fun e w' => ∃ v, e = .returned v ∧ ChgsNew w' wx.heap.size v (bif bookB ks ps es && bookB ks' ps' es' then (chgsOf es').filter fun c => !hasS es c else []) ∧ Below wx.heap.size wx w') := fun _ _ _ _ _ _ wx h h' => implNews_any _ _ _ _ _ _ ks ps ks' ps' es es' wx h h' NN.out.1 NN.out.2 SS.out.1 SS.out.2 hsA hsB SS.out.1.e SS.out.2.e (book_small SS.out.2)
      have hR := news_len ks ps ks' ps' es es' hsB
      generalize (bif bookB ks ps es && bookB ks' ps' es' then (chgsOf es').filter fun c => !hasS es c else []) = R at *
      clear NN HA HB
      go_wp2
      -- what the specification answers
      refine wp_region_noPanic ?_
      refine wp_region_held_drew (S := fun w' => (w'.cell? ⟨w.heap.size, 0, none⟩ = some (.slice ak ks.length ck) ∧ w'.cell? ⟨w.heap.size, 1, none⟩ = some (.slice ap ps.length cp) ∧ w'.cell? ⟨w.heap.size, 2, none⟩ = some (.slice ae es.length ce)) ∧ (w'.cell? ⟨w.heap.size + 1, 0, none⟩ = some (.slice ak' ks'.length ck') ∧ w'.cell? ⟨w.heap.size + 1, 1, none⟩ = some (.slice ap' ps'.length cp') ∧ w'.cell? ⟨w.heap.size + 1, 2, none⟩ = some (.slice ae' es'.length ce'))) (by kernel_rfl) ?_ (fun hHeld => ?_)
      · exact ⟨⟨L2.out.cellA 0, L2.out.cellA 1, L2.out.cellA 2⟩, ⟨L2.out.cellB 0, L2.out.cellB 1, L2.out.cellB 2⟩⟩
      refine wpAnyH_take (i := 0) (v := ?_) rfl (by kernel_rfl) (by kernel_rfl) (by kernel_rfl) (fun _ _ _ h => h) (Or.inl ⟨by rfl, ?_⟩) (by assumption) ?_
      rotate_left
      · intro w hSw; (try dsimp only at hSw); go_simp; try with_reducible rfl
      simp only [Act.put, List.setIfInBounds_toArray, List.set_cons_zero, List.set_cons_succ, List.getElem_toArray, List.getElem_cons_succ, List.getElem_cons_zero]
      refine wpAnyH_take (i := 2) (v := ?_) rfl (by kernel_rfl) (by kernel_rfl) (by kernel_rfl) (fun _ _ _ h => h) (Or.inl ⟨by rfl, ?_⟩) (by assumption) ?_
      rotate_left
      · intro w hSw; (try dsimp only at hSw); go_simp; try with_reducible rfl
      simp only [Act.put, List.setIfInBounds_toArray, List.set_cons_zero, List.set_cons_succ, List.getElem_toArray, List.getElem_cons_succ, List.getElem_cons_zero]
      refine wpAnyH_ready (rs := [1]) (by kernel_rfl) (by simp) ?_
      refine AllReadyH.cons rfl (fun K hK => ?_) AllReadyH.nil
      go_simp
      refine (GA.out _ L2.out.below.drew).mono ?_
      rintro e w3 ⟨k3, p3, e3, rfl, hB3, hb3⟩
      have L3 : Hid (LA w w3 #[.slice ak ks.length ck, .slice ap ps.length cp, .slice ae es.length ce] #[.slice ak' ks'.length ck', .slice ap' ps'.length cp', .slice ae' es'.length ce']) := (drewLA L2.out).call hb3
      have HB3 : Hid (BookAt w3 k3 p3 e3 ks ps es) := hB3.at SS.out.1
      refine hK.out _ _ ⟨⟨L3.out.cellA 0, L3.out.cellA 1, L3.out.cellA 2⟩, ⟨L3.out.cellB 0, L3.out.cellB 1, L3.out.cellB 2⟩⟩ (fun hHeld3 => ?_)
      clear hK K hHeld hHeld3 L2 hb3 hB3
      refine wpAnyH_ready (rs := [3]) (by kernel_rfl) (by simp) ?_
      refine AllReadyH.cons rfl (fun K hK => ?_) AllReadyH.nil
      go_simp
      refine (GB.out _ L3.out.below).mono ?_
      rintro e w4 ⟨k4, p4, e4, rfl, hB4, hb4⟩
      have L4 : Hid (LA w w4 #[.slice ak ks.length ck, .slice ap ps.length cp, .slice ae es.length ce] #[.slice ak' ks'.length ck', .slice ap' ps'.length cp', .slice ae' es'.length ce']) := L3.out.call hb4
      have HB4 : Hid (BookAt w4 k3 p3 e3 ks ps es ∧ BookAt w4 k4 p4 e4 ks' ps' es') := ⟨HB3.out.keep hb4, hB4.at SS.out.2⟩
      refine hK.out _ _ ⟨⟨L4.out.cellA 0, L4.out.cellA 1, L4.out.cellA 2⟩, ⟨L4.out.cellB 0, L4.out.cellB 1, L4.out.cellB 2⟩⟩ (fun hHeld4 => ?_)
      clear hK K hHeld4 L3 HB3 hb4 hB4
      refine wpAnyH_ready (rs := [4]) (by kernel_rfl) (by simp) ?_
      refine AllReadyH.cons rfl (fun K hK => ?_) AllReadyH.nil
      go_simp
      refine (GS.out _ _ _ _ _ _ _ HB4.out.1 HB4.out.2).mono ?_
      rintro e w5 ⟨v0, rfl, hn5, hb5⟩
      have L5 : Hid (LA w w5 #[.slice ak ks.length ck, .slice ap ps.length cp, .slice ae es.length ce] #[.slice ak' ks'.length ck', .slice ap' ps'.length cp', .slice ae' es'.length ce']) := L4.out.call hb5
      have hz4 : w.heap.size + 2 ≤ w4.heap.size := L4.out.zA
      have hz5 : w4.heap.size ≤ w5.heap.size := hb5.size
      have V5 : Hid (ChgsNew w5 (w.heap.size + 2) v0 R) := ownsRow_base hn5 hz4
      refine hK.out _ _ ⟨⟨L5.out.cellA 0, L5.out.cellA 1, L5.out.cellA 2⟩, ⟨L5.out.cellB 0, L5.out.cellB 1, L5.out.cellB 2⟩⟩ (fun hHeld5 => ?_)
      clear hK K L4 HB4 hb5 hn5 GS
      refine wpAnyH_take (i := 5) (v := ?_) rfl (by kernel_rfl) (by kernel_rfl) (by kernel_rfl) (fun _ _ _ h => h) (Or.inl ⟨by rfl, ?_⟩) (by assumption) ?_
      rotate_left
      · intro w hSw; (try dsimp only at hSw); go_simp; try with_reducible rfl
      simp only [Act.put, List.setIfInBounds_toArray, List.set_cons_zero, List.set_cons_succ, List.getElem_toArray, List.getElem_cons_succ, List.getElem_cons_zero]
      refine wpAnyH_done (by kernel_rfl) ?_ _
      refine NoPanic.normal ?_
      have hz5' : w.heap.size + 2 ≤ w5.heap.size := by omega
      clear hz4 hz5 hHeld5
      obtain ⟨a0, a1, a2⟩ : (w5.cell? ⟨w.heap.size, 0, none⟩ = some (.slice ak ks.length ck) ∧ w5.cell? ⟨w.heap.size, 1, none⟩ = some (.slice ap ps.length cp) ∧ w5.cell? ⟨w.heap.size, 2, none⟩ = some (.slice ae es.length ce)) := ⟨L5.out.cellA 0, L5.out.cellA 1, L5.out.cellA 2⟩
      go_wp2_with fail
      refine (GA.out _ L5.out.below).mono ?_
      rintro e w6 ⟨kv6, pv6, ev6, rfl, hB6, hb6⟩
      obtain ⟨⟨k6, k6', rfl, -, -, -⟩, ⟨p6, p6', rfl, -, -, -⟩, ⟨e6, e6', rfl, -, -, -⟩⟩ := hB6.at SS.out.1
      have BA6 : Hid (BookAt w6 (.slice k6 ks.length k6') (.slice p6 ps.length p6') (.slice e6 es.length e6') ks ps es) := hB6.at SS.out.1
      have OW6 : Hid (BookOwn (w5.heap.size + 3) w6 (.slice k6 ks.length k6') (.slice p6 ps.length p6') (.slice e6 es.length e6') ks ps es) := hB6
      have L6 : Hid (LA w w6 #[.slice ak ks.length ck, .slice ap ps.length cp, .slice ae es.length ce] #[.slice ak' ks'.length ck', .slice ap' ps'.length cp', .slice ae' es'.length ce']) := L5.out.call hb6
      have V6 : Hid (ChgsNew w6 (w.heap.size + 2) v0 R) := ownsRow_keep V5.out hb6
      have VL : Hid (∀ k, v0.ownBlock = some k → k < w5.heap.size) := own_lt V5.out
      have hz6 : w5.heap.size ≤ w6.heap.size := hb6.size
      clear hb6 hB6 a0 a1 a2 V5 L5
      have B7 : Hid (Below w6.heap.size w6 (w6.alloc (.cells #[.slice k6 ks.length k6', .slice p6 ps.length p6', .slice e6 es.length e6'] 39))) := (Below.refl _ _).alloc (Nat.le_refl _) _
      have L7 : Hid (LA w (w6.alloc (.cells #[.slice k6 ks.length k6', .slice p6 ps.length p6', .slice e6 es.length e6'] 39)) #[.slice ak ks.length ck, .slice ap ps.length cp, .slice ae es.length ce] #[.slice ak' ks'.length ck', .slice ap' ps'.length cp', .slice ae' es'.length ce']) := L6.out.call B7.out
      obtain ⟨b0, b1, b2⟩ : ((w6.alloc (.cells #[.slice k6 ks.length k6', .slice p6 ps.length p6', .slice e6 es.length e6'] 39)).cell? ⟨w.heap.size + 1, 0, none⟩ = some (.slice ak' ks'.length ck') ∧ (w6.alloc (.cells #[.slice k6 ks.length k6', .slice p6 ps.length p6', .slice e6 es.length e6'] 39)).cell? ⟨w.heap.size + 1, 1, none⟩ = some (.slice ap' ps'.length cp') ∧ (w6.alloc (.cells #[.slice k6 ks.length k6', .slice p6 ps.length p6', .slice e6 es.length e6'] 39)).cell? ⟨w.heap.size + 1, 2, none⟩ = some (.slice ae' es'.length ce')) := ⟨L7.out.cellB 0, L7.out.cellB 1, L7.out.cellB 2⟩
      go_wp2_with fail
      refine (GB.out _ L7.out.below).mono ?_
      rintro e w8 ⟨kv8, pv8, ev8, rfl, hB8, hb8⟩
      obtain ⟨⟨k8, k8', rfl, -, -, -⟩, ⟨p8, p8', rfl, -, -, -⟩, ⟨e8, e8', rfl, -, -, -⟩⟩ := hB8.at SS.out.2
      have BA8 : Hid (BookAt w8 (.slice k8 ks'.length k8') (.slice p8 ps'.length p8') (.slice e8 es'.length e8') ks' ps' es') := hB8.at SS.out.2
      have OW8 : Hid (BookOwn (w6.heap.size + 1 + 3) w8 (.slice k8 ks'.length k8') (.slice p8 ps'.length p8') (.slice e8 es'.length e8') ks' ps' es') := by
        rw [World.size_alloc] at hB8
        exact hB8
      have hz8 : w6.heap.size + 1 ≤ w8.heap.size := by have := hb8.size; rw [World.size_alloc] at this; exact this
      have T8 : Hid (Below w6.heap.size w6 w8) := below_step B7.out hb8
      have X8 : Hid (w8.heap[w6.heap.size]? = some (.cells #[.slice k6 ks.length k6', .slice p6 ps.length p6', .slice e6 es.length e6'] 39 (0, 0))) := (hb8.block _ (by simp)).trans (heap_new w6 _)
      have L8 : Hid (LA w w8 #[.slice ak ks.length ck, .slice ap ps.length cp, .slice ae es.length ce] #[.slice ak' ks'.length ck', .slice ap' ps'.length cp', .slice ae' es'.length ce']) := L7.out.call hb8
      have V8 : Hid (ChgsNew w8 (w.heap.size + 2) v0 R) := ownsRow_keep V6.out T8.out
      clear hb8 hB8 b0 b1 b2 L6 L7 B7 V6
      have B9 : Hid (Below w8.heap.size w8 (w8.alloc (.cells #[.slice k8 ks'.length k8', .slice p8 ps'.length p8', .slice e8 es'.length e8'] 39))) := (Below.refl _ _).alloc (Nat.le_refl _) _
      have hz9 : (w8.alloc (.cells #[.slice k8 ks'.length k8', .slice p8 ps'.length p8', .slice e8 es'.length e8'] 39)).heap.size = w8.heap.size + 1 := by simp
      have X9 : Hid ((w8.alloc (.cells #[.slice k8 ks'.length k8', .slice p8 ps'.length p8', .slice e8 es'.length e8'] 39)).heap[w6.heap.size]? = some (.cells #[.slice k6 ks.length k6', .slice p6 ps.length p6', .slice e6 es.length e6'] 39 (0, 0)) ∧ (w8.alloc (.cells #[.slice k8 ks'.length k8', .slice p8 ps'.length p8', .slice e8 es'.length e8'] 39)).heap[w8.heap.size]? = some (.cells #[.slice k8 ks'.length k8', .slice p8 ps'.length p8', .slice e8 es'.length e8'] 39 (0, 0))) := ⟨(B9.out.block _ (by omega)).trans X8.out, heap_new w8 _⟩
      obtain ⟨x0, x1, x2⟩ := three_cells X9.out.1
      obtain ⟨y0, y1, y2⟩ := three_cells X9.out.2
      go_wp2_with fail
      refine (GI.out _ _ _ _ _ _ _ ((BA6.out.keep T8.out).keep B9.out) (BA8.out.keep B9.out)).mono ?_
      rintro e w10 ⟨vg, rfl, hn10, hb10⟩
      have N10 : Hid (NB w w6 w8 w10 #[.slice ak ks.length ck, .slice ap ps.length cp, .slice ae es.length ce] #[.slice ak' ks'.length ck', .slice ap' ps'.length cp', .slice ae' es'.length ce'] #[.slice k6 ks.length k6', .slice p6 ps.length p6', .slice e6 es.length e6'] #[.slice k8 ks'.length k8', .slice p8 ps'.length p8', .slice e8 es'.length e8'] v0 vg R) := by
        have hb : Below w8.heap.size w8 w10 := below_step B9.out hb10
        refine ⟨L8.out.call hb, ownsRow_keep V8.out hb, by rw [hz9] at hn10; exact hn10, below_step T8.out hb, hb, (hb.block _ (by omega)).trans X8.out, (hb10.block _ (by omega)).trans X9.out.2⟩
      clear hb10 hn10 x0 x1 x2 y0 y1 y2 X9 B9 L8 V8 X8 T8 hz9
      go_wp2_with fail
      refine (eqChanges_any vg v0 R _ N10.out.g.at N10.out.v.at).mono ?_
      rintro e w11 ⟨rfl, hb11⟩
      have N11 : Hid (NB w w6 w8 w11 #[.slice ak ks.length ck, .slice ap ps.length cp, .slice ae es.length ce] #[.slice ak' ks'.length ck', .slice ap' ps'.length cp', .slice ae' es'.length ce'] #[.slice k6 ks.length k6', .slice p6 ps.length p6', .slice e6 es.length e6'] #[.slice k8 ks'.length k8', .slice p8 ps'.length p8', .slice e8 es'.length e8'] v0 vg R) := N10.out.call hb11
      clear N10 hb11
      go_wp2
      -- the first book is as it was
      refine wp_region_noPanic ?_
      refine wp_region_held_drew (S := fun w' => (w'.cell? ⟨w6.heap.size, 0, none⟩ = some (.slice k6 ks.length k6') ∧ w'.cell? ⟨w6.heap.size, 1, none⟩ = some (.slice p6 ps.length p6') ∧ w'.cell? ⟨w6.heap.size, 2, none⟩ = some (.slice e6 es.length e6')) ∧ (w'.cell? ⟨w.heap.size, 0, none⟩ = some (.slice ak ks.length ck) ∧ w'.cell? ⟨w.heap.size, 1, none⟩ = some (.slice ap ps.length cp) ∧ w'.cell? ⟨w.heap.size, 2, none⟩ = some (.slice ae es.length ce))) (by kernel_rfl) ?_ (fun hHeld => ?_)
      · exact ⟨three_cells N11.out.xa, ⟨N11.out.la.cellA 0, N11.out.la.cellA 1, N11.out.la.cellA 2⟩⟩
      refine wpAnyH_take (i := 0) (v := ?_) rfl (by kernel_rfl) (by kernel_rfl) (by kernel_rfl) (fun _ _ _ h => h) (Or.inl ⟨by rfl, ?_⟩) (by assumption) ?_
      rotate_left
      · intro w hSw; (try dsimp only at hSw); go_simp; try with_reducible rfl
      simp only [Act.put, List.setIfInBounds_toArray, List.set_cons_zero, List.set_cons_succ, List.getElem_toArray, List.getElem_cons_succ, List.getElem_cons_zero]
      refine wpAnyH_take (i := 1) (v := ?_) rfl (by kernel_rfl) (by kernel_rfl) (by kernel_rfl) (fun _ _ _ h => h) (Or.inl ⟨by rfl, ?_⟩) (by assumption) ?_
      rotate_left
      · intro w hSw; (try dsimp only at hSw); go_simp; try with_reducible rfl
      simp only [Act.put, List.setIfInBounds_toArray, List.set_cons_zero, List.set_cons_succ, List.getElem_toArray, List.getElem_cons_succ, List.getElem_cons_zero]
      refine wpAnyH_ready (rs := [2]) (by kernel_rfl) (by simp) ?_
      refine AllReadyH.cons rfl (fun K hK => ?_) AllReadyH.nil
      go_simp
      refine (GA.out _ N11.out.la.below.drew).mono ?_
      rintro e w12 ⟨kz, pz, ez, rfl, hBz, hb12⟩
      have N12 : Hid (NB w w6 w8 w12 #[.slice ak ks.length ck, .slice ap ps.length cp, .slice ae es.length ce] #[.slice ak' ks'.length ck', .slice ap' ps'.length cp', .slice ae' es'.length ce'] #[.slice k6 ks.length k6', .slice p6 ps.length p6', .slice e6 es.length e6'] #[.slice k8 ks'.length k8', .slice p8 ps'.length p8', .slice e8 es'.length e8'] v0 vg R) := N11.out.drew.call hb12
      have BZ : Hid (BookAt w12 kz pz ez ks ps es) := hBz.at SS.out.1
      refine hK.out _ _ ⟨three_cells N12.out.xa, ⟨N12.out.la.cellA 0, N12.out.la.cellA 1, N12.out.la.cellA 2⟩⟩ (fun hHeld12 => ?_)
      clear hK K hHeld hHeld12 N11 hb12 hBz
      refine wpAnyH_ready (rs := [3]) (by kernel_rfl) (by simp) ?_
      refine AllReadyH.cons rfl (fun K hK => ?_) AllReadyH.nil
      go_simp
      refine (eqBook_any _ _ _ _ _ _ ks ps es _ (BA6.out.keep N12.out.t6) BZ.out).mono ?_
      rintro e w13 ⟨rfl, hb13⟩
      have N13 : Hid (NB w w6 w8 w13 #[.slice ak ks.length ck, .slice ap ps.length cp, .slice ae es.length ce] #[.slice ak' ks'.length ck', .slice ap' ps'.length cp', .slice ae' es'.length ce'] #[.slice k6 ks.length k6', .slice p6 ps.length p6', .slice e6 es.length e6'] #[.slice k8 ks'.length k8', .slice p8 ps'.length p8', .slice e8 es'.length e8'] v0 vg R) := N12.out.call hb13
      refine hK.out _ _ ⟨three_cells N13.out.xa, ⟨N13.out.la.cellA 0, N13.out.la.cellA 1, N13.out.la.cellA 2⟩⟩ (fun hHeld13 => ?_)
      clear hK K N12 hb13 BZ
      refine wpAnyH_take (i := 4) (v := ?_) rfl (by kernel_rfl) (by kernel_rfl) (by kernel_rfl) (fun _ _ _ h => h) (Or.inl ⟨by rfl, ?_⟩) (by assumption) ?_
      rotate_left
      · intro w hSw; (try dsimp only at hSw); go_simp; try with_reducible rfl
      simp only [Act.put, List.setIfInBounds_toArray, List.set_cons_zero, List.set_cons_succ, List.getElem_toArray, List.getElem_cons_succ, List.getElem_cons_zero]
      clear hHeld13
      refine wpAnyH_done (by kernel_rfl) ?_ _
      refine NoPanic.normal ?_
      go_wp2
      -- and the other one
      refine wp_region_noPanic ?_
      refine wp_region_held_drew (S := fun w' => (w'.cell? ⟨w8.heap.size, 0, none⟩ = some (.slice k8 ks'.length k8') ∧ w'.cell? ⟨w8.heap.size, 1, none⟩ = some (.slice p8 ps'.length p8') ∧ w'.cell? ⟨w8.heap.size, 2, none⟩ = some (.slice e8 es'.length e8')) ∧ (w'.cell? ⟨w.heap.size + 1, 0, none⟩ = some (.slice ak' ks'.length ck') ∧ w'.cell? ⟨w.heap.size + 1, 1, none⟩ = some (.slice ap' ps'.length cp') ∧ w'.cell? ⟨w.heap.size + 1, 2, none⟩ = some (.slice ae' es'.length ce'))) (by kernel_rfl) ?_ (fun hHeld => ?_)
      · exact ⟨three_cells N13.out.xb, ⟨N13.out.la.cellB 0, N13.out.la.cellB 1, N13.out.la.cellB 2⟩⟩
      refine wpAnyH_take (i := 0) (v := ?_) rfl (by kernel_rfl) (by kernel_rfl) (by kernel_rfl) (fun _ _ _ h => h) (Or.inl ⟨by rfl, ?_⟩) (by assumption) ?_
      rotate_left
      · intro w hSw; (try dsimp only at hSw); go_simp; try with_reducible rfl
      simp only [Act.put, List.setIfInBounds_toArray, List.set_cons_zero, List.set_cons_succ, List.getElem_toArray, List.getElem_cons_succ, List.getElem_cons_zero]
      refine wpAnyH_take (i := 1) (v := ?_) rfl (by kernel_rfl) (by kernel_rfl) (by kernel_rfl) (fun _ _ _ h => h) (Or.inl ⟨by rfl, ?_⟩) (by assumption) ?_
      rotate_left
      · intro w hSw; (try dsimp only at hSw); go_simp; try with_reducible rfl
      simp only [Act.put, List.setIfInBounds_toArray, List.set_cons_zero, List.set_cons_succ, List.getElem_toArray, List.getElem_cons_succ, List.getElem_cons_zero]
      refine wpAnyH_ready (rs := [2]) (by kernel_rfl) (by simp) ?_
      refine AllReadyH.cons rfl (fun K hK => ?_) AllReadyH.nil
      go_simp
      refine (GB.out _ N13.out.la.below.drew).mono ?_
      rintro e w14 ⟨kz, pz, ez, rfl, hBz, hb14⟩
      have N14 : Hid (NB w w6 w8 w14 #[.slice ak ks.length ck, .slice ap ps.length cp, .slice ae es.length ce] #[.slice ak' ks'.length ck', .slice ap' ps'.length cp', .slice ae' es'.length ce'] #[.slice k6 ks.length k6', .slice p6 ps.length p6', .slice e6 es.length e6'] #[.slice k8 ks'.length k8', .slice p8 ps'.length p8', .slice e8 es'.length e8'] v0 vg R) := N13.out.drew.call hb14
      have BZ : Hid (BookAt w14 kz pz ez ks' ps' es') := hBz.at SS.out.2
      refine hK.out _ _ ⟨three_cells N14.out.xb, ⟨N14.out.la.cellB 0, N14.out.la.cellB 1, N14.out.la.cellB 2⟩⟩ (fun hHeld14 => ?_)
      clear hK K hHeld hHeld14 N13 hb14 hBz
      refine wpAnyH_ready (rs := [3]) (by kernel_rfl) (by simp) ?_
      refine AllReadyH.cons rfl (fun K hK => ?_) AllReadyH.nil
      go_simp
      refine (eqBook_any _ _ _ _ _ _ ks' ps' es' _ (BA8.out.keep N14.out.t8) BZ.out).mono ?_
      rintro e w15 ⟨rfl, hb15⟩
      have N15 : Hid (NB w w6 w8 w15 #[.slice ak ks.length ck, .slice ap ps.length cp, .slice ae es.length ce] #[.slice ak' ks'.length ck', .slice ap' ps'.length cp', .slice ae' es'.length ce'] #[.slice k6 ks.length k6', .slice p6 ps.length p6', .slice e6 es.length e6'] #[.slice k8 ks'.length k8', .slice p8 ps'.length p8', .slice e8 es'.length e8'] v0 vg R) := N14.out.call hb15
      refine hK.out _ _ ⟨three_cells N15.out.xb, ⟨N15.out.la.cellB 0, N15.out.la.cellB 1, N15.out.la.cellB 2⟩⟩ (fun hHeld15 => ?_)
      clear hK K N14 hb15 BZ
      refine wpAnyH_take (i := 4) (v := ?_) rfl (by kernel_rfl) (by kernel_rfl) (by kernel_rfl) (fun _ _ _ h => h) (Or.inl ⟨by rfl, ?_⟩) (by assumption) ?_
      rotate_left
      · intro w hSw; (try dsimp only at hSw); go_simp; try with_reducible rfl
      simp only [Act.put, List.setIfInBounds_toArray, List.set_cons_zero, List.set_cons_succ, List.getElem_toArray, List.getElem_cons_succ, List.getElem_cons_zero]
      clear hHeld15
      refine wpAnyH_done (by kernel_rfl) ?_ _
      refine NoPanic.normal ?_
      -- marks over both copies
      obtain ⟨x0, x1, x2⟩ := three_cells N15.out.xa
      go_wp2_with fail
      refine (markBook_any _ _ _ ks ps es 1 (w5.heap.size + 3) w6 _ OW6.out (fun k _ hk => N15.out.t6.block k hk) N15.out.t6.size SS.out.1 hsA (by omega)).mono ?_
      rintro e w16 ⟨⟨k16, hk16, hk16', rfl⟩, hO16⟩
      have hz15 : w8.heap.size + 1 ≤ w15.heap.size := (Array.getElem?_eq_some_iff.1 N15.out.xb).1
      have L16 : Hid (LA w w16 #[.slice ak ks.length ck, .slice ap ps.length cp, .slice ae es.length ce] #[.slice ak' ks'.length ck', .slice ap' ps'.length cp', .slice ae' es'.length ce']) := N15.out.la.only hO16 (by omega)
      have V16 : Hid (ChgsNew w16 (w.heap.size + 2) v0 R) := ownsRow_same N15.out.v (fun k hk _ => hO16.below.block k (by have := VL.out k hk; omega))
      have G16 : Hid (ChgsNew w16 (w8.heap.size + 1) vg R) := ownsRow_same N15.out.g (fun k hk hl => hO16.up k (by have := own_ge N15.out.g k hk; omega) hl)
      have T16 : Hid (∀ k, w6.heap.size + 1 + 3 ≤ k → k < w8.heap.size → w16.heap[k]? = w8.heap[k]?) := fun k h1 h2 => (hO16.up k (by omega) (by omega)).trans (N15.out.t8.block k h2)
      have Y16 : Hid (w16.heap[w8.heap.size]? = some (.cells #[.slice k8 ks'.length k8', .slice p8 ps'.length p8', .slice e8 es'.length e8'] 39 (0, 0))) := (hO16.up _ (by omega) (by omega)).trans N15.out.xb
      clear hO16 x0 x1 x2 N15
      obtain ⟨y0, y1, y2⟩ := three_cells Y16.out
      have hz16 : w8.heap.size + 1 ≤ w16.heap.size := (Array.getElem?_eq_some_iff.1 Y16.out).1
      go_wp2_with fail
      refine (markBook_any _ _ _ ks' ps' es' k16 (w6.heap.size + 1 + 3) w8 _ OW8.out T16.out (by omega) SS.out.2 hsB (by omega)).mono ?_
      rintro e w17 ⟨⟨k17, hk17, hk17', rfl⟩, hO17⟩
      have L17 : Hid (LA w w17 #[.slice ak ks.length ck, .slice ap ps.length cp, .slice ae es.length ce] #[.slice ak' ks'.length ck', .slice ap' ps'.length cp', .slice ae' es'.length ce']) := L16.out.only hO17 (by omega)
      have V17 : Hid (ChgsNew w17 (w.heap.size + 2) v0 R) := ownsRow_same V16.out (fun k hk _ => hO17.below.block k (by have := VL.out k hk; omega))
      have G17 : Hid (ChgsNew w17 (w8.heap.size + 1) vg R) := ownsRow_same G16.out (fun k hk hl => hO17.up k (by have := own_ge G16.out k hk; omega) hl)
      clear hO17 y0 y1 y2 L16 V16 G16 T16 Y16
      have hk17n : ¬ ((k17 : Nat) : Int) < 0 := by omega
      go_wp2_with fail
      refine (eqChanges_any vg v0 R _ G17.out.at V17.out.at).mono ?_
      rintro e w18 ⟨rfl, hb18⟩
      have L18 : Hid (LA w w18 #[.slice ak ks.length ck, .slice ap ps.length cp, .slice ae es.length ce] #[.slice ak' ks'.length ck', .slice ap' ps'.length cp', .slice ae' es'.length ce']) := L17.out.call hb18
      have V18 : Hid (ChgsNew w18 (w.heap.size + 2) v0 R ∧ ChgsNew w18 (w8.heap.size + 1) vg R) := ⟨ownsRow_keep V17.out hb18, ownsRow_keep G17.out hb18⟩
      clear L17 V17 G17 hb18
      -- marks over the answer
      go_wp2_with fail
      refine (markG_any vg R _ _ V18.out.2 hR).mono ?_
      rintro e w19 ⟨rfl, hM19, hg19⟩
      have L19 : Hid (LA w w19 #[.slice ak ks.length ck, .slice ap ps.length cp, .slice ae es.length ce] #[.slice ak' ks'.length ck', .slice ap' ps'.length cp', .slice ae' es'.length ce']) := L18.out.grown hg19 (fun k hk => by have := own_ge V18.out.2 k hk; omega)
      have V19 : Hid (ChgsNew w19 (w.heap.size + 2) v0 R) := ownsRow_far V18.out.1 hg19 (fun k hk e => by have h1 := VL.out k hk; have h2 := own_ge V18.out.2 k e.symm; omega)
      have M19 : Hid (Marked w19 vg R.length) := hM19
      clear hM19 hg19 L18 V18
      have GH : Hid (∀ wx : World, Marked wx vg R.length → Calls Tryz.prog 21 #[vg, .int .i64 1] wx fun e w' => e = .returned (.int .i64 ((1 + R.length * 4 : Nat) : Int)) ∧ Below wx.heap.size wx w') := fun wx h => heldG_any vg R.length wx h hR
      generalize hmm : 1 + R.length * 4 = mm at *
      have hmn : ¬ ((mm : Nat) : Int) < 0 := by omega
      have hme : (((mm : Nat) : Int) != ((mm : Nat) : Int)) = false := by simp
      go_wp2_with fail
      refine (GH.out _ M19.out).mono ?_
      rintro e w20 ⟨rfl, hb20⟩
      have L20 : Hid (LA w w20 #[.slice ak ks.length ck, .slice ap ps.length cp, .slice ae es.length ce] #[.slice ak' ks'.length ck', .slice ap' ps'.length cp', .slice ae' es'.length ce']) := L19.out.call hb20
      have V20 : Hid (ChgsNew w20 (w.heap.size + 2) v0 R) := ownsRow_keep V19.out hb20
      have M20 : Hid (Marked w20 vg R.length) := M19.out.keep hb20
      clear L19 V19 M19 hb20
      go_wp2
      -- once more
      refine wp_region_noPanic ?_
      refine wp_region_held_drew (S := fun w' => (w'.cell? ⟨w.heap.size, 0, none⟩ = some (.slice ak ks.length ck) ∧ w'.cell? ⟨w.heap.size, 1, none⟩ = some (.slice ap ps.length cp) ∧ w'.cell? ⟨w.heap.size, 2, none⟩ = some (.slice ae es.length ce)) ∧ (w'.cell? ⟨w.heap.size + 1, 0, none⟩ = some (.slice ak' ks'.length ck') ∧ w'.cell? ⟨w.heap.size + 1, 1, none⟩ = some (.slice ap' ps'.length cp') ∧ w'.cell? ⟨w.heap.size + 1, 2, none⟩ = some (.slice ae' es'.length ce'))) (by kernel_rfl) ?_ (fun hHeld => ?_)
      · exact ⟨⟨L20.out.cellA 0, L20.out.cellA 1, L20.out.cellA 2⟩, ⟨L20.out.cellB 0, L20.out.cellB 1, L20.out.cellB 2⟩⟩
      refine wpAnyH_take (i := 0) (v := ?_) rfl (by kernel_rfl) (by kernel_rfl) (by kernel_rfl) (fun _ _ _ h => h) (Or.inl ⟨by rfl, ?_⟩) (by assumption) ?_
      rotate_left
      · intro w hSw; (try dsimp only at hSw); go_simp; try with_reducible rfl
      simp only [Act.put, List.setIfInBounds_toArray, List.set_cons_zero, List.set_cons_succ, List.getElem_toArray, List.getElem_cons_succ, List.getElem_cons_zero]
      refine wpAnyH_take (i := 2) (v := ?_) rfl (by kernel_rfl) (by kernel_rfl) (by kernel_rfl) (fun _ _ _ h => h) (Or.inl ⟨by rfl, ?_⟩) (by assumption) ?_
      rotate_left
      · intro w hSw; (try dsimp only at hSw); go_simp; try with_reducible rfl
      simp only [Act.put, List.setIfInBounds_toArray, List.set_cons_zero, List.set_cons_succ, List.getElem_toArray, List.getElem_cons_succ, List.getElem_cons_zero]
      refine wpAnyH_ready (rs := [1]) (by kernel_rfl) (by simp) ?_
      refine AllReadyH.cons rfl (fun K hK => ?_) AllReadyH.nil
      go_simp
      refine (GA.out _ L20.out.below.drew).mono ?_
      rintro e w21 ⟨k3, p3, e3, rfl, hB3, hb3⟩
      have hb21 : Below w20.heap.size w20 w21 := ⟨hb3.os, hb3.tape, hb3.output, hb3.size, hb3.block⟩
      have L21 : Hid (LA w w21 #[.slice ak ks.length ck, .slice ap ps.length cp, .slice ae es.length ce] #[.slice ak' ks'.length ck', .slice ap' ps'.length cp', .slice ae' es'.length ce']) := L20.out.call hb21
      have HB3 : Hid (BookAt w21 k3 p3 e3 ks ps es) := hB3.at SS.out.1
      refine hK.out _ _ ⟨⟨L21.out.cellA 0, L21.out.cellA 1, L21.out.cellA 2⟩, ⟨L21.out.cellB 0, L21.out.cellB 1, L21.out.cellB 2⟩⟩ (fun hHeld3 => ?_)
      clear hK K hHeld hHeld3 hb3 hB3
      refine wpAnyH_ready (rs := [3]) (by kernel_rfl) (by simp) ?_
      refine AllReadyH.cons rfl (fun K hK => ?_) AllReadyH.nil
      go_simp
      refine (GB.out _ L21.out.below).mono ?_
      rintro e w22 ⟨k4, p4, e4, rfl, hB4, hb22⟩
      have L22 : Hid (LA w w22 #[.slice ak ks.length ck, .slice ap ps.length cp, .slice ae es.length ce] #[.slice ak' ks'.length ck', .slice ap' ps'.length cp', .slice ae' es'.length ce']) := L21.out.call hb22
      have HB4 : Hid (BookAt w22 k3 p3 e3 ks ps es ∧ BookAt w22 k4 p4 e4 ks' ps' es') := ⟨HB3.out.keep hb22, hB4.at SS.out.2⟩
      refine hK.out _ _ ⟨⟨L22.out.cellA 0, L22.out.cellA 1, L22.out.cellA 2⟩, ⟨L22.out.cellB 0, L22.out.cellB 1, L22.out.cellB 2⟩⟩ (fun hHeld4 => ?_)
      clear hK K hHeld4 HB3 hB4
      refine wpAnyH_ready (rs := [4]) (by kernel_rfl) (by simp) ?_
      refine AllReadyH.cons rfl (fun K hK => ?_) AllReadyH.nil
      go_simp
      refine (GI.out _ _ _ _ _ _ _ HB4.out.1 HB4.out.2).mono ?_
      rintro e w23 ⟨vh, rfl, hn23, hb23⟩
      have hb20 : Below w20.heap.size w20 w23 := below_step (below_step hb21 hb22) hb23
      have L23 : Hid (LA w w23 #[.slice ak ks.length ck, .slice ap ps.length cp, .slice ae es.length ce] #[.slice ak' ks'.length ck', .slice ap' ps'.length cp', .slice ae' es'.length ce']) := L20.out.call hb20
      have V23 : Hid (ChgsNew w23 (w.heap.size + 2) v0 R ∧ ChgsAt w23 vh R) := ⟨ownsRow_keep V20.out hb20, hn23.at⟩
      have M23 : Hid (Marked w23 vg R.length) := M20.out.keep hb20
      refine hK.out _ _ ⟨⟨L23.out.cellA 0, L23.out.cellA 1, L23.out.cellA 2⟩, ⟨L23.out.cellB 0, L23.out.cellB 1, L23.out.cellB 2⟩⟩ (fun hHeld5 => ?_)
      clear hK K L20 L21 L22 HB4 hb21 hb22 hb23 hb20 hn23 GI GA GB V20 M20
      refine wpAnyH_take (i := 5) (v := ?_) rfl (by kernel_rfl) (by kernel_rfl) (by kernel_rfl) (fun _ _ _ h => h) (Or.inl ⟨by rfl, ?_⟩) (by assumption) ?_
      rotate_left
      · intro w hSw; (try dsimp only at hSw); go_simp; try with_reducible rfl
      simp only [Act.put, List.setIfInBounds_toArray, List.set_cons_zero, List.set_cons_succ, List.getElem_toArray, List.getElem_cons_succ, List.getElem_cons_zero]
      refine wpAnyH_done (by kernel_rfl) ?_ _
      refine NoPanic.normal ?_
      clear hHeld5
      go_wp2_with fail
      refine (eqChanges_any vh v0 R _ V23.out.2 V23.out.1.at).mono ?_
      rintro e w24 ⟨rfl, hb24⟩
      have L24 : Hid (LA w w24 #[.slice ak ks.length ck, .slice ap ps.length cp, .slice ae es.length ce] #[.slice ak' ks'.length ck', .slice ap' ps'.length cp', .slice ae' es'.length ce']) := L23.out.call hb24
      have M24 : Hid (Marked w24 vg R.length) := M23.out.keep hb24
      clear hb24 V23 M23 L23
      go_wp2_with fail
      refine (GH.out _ M24.out).mono ?_
      rintro e w25 ⟨rfl, hb25⟩
      have L25 : Hid (LA w w25 #[.slice ak ks.length ck, .slice ap ps.length cp, .slice ae es.length ce] #[.slice ak' ks'.length ck', .slice ap' ps'.length cp', .slice ae' es'.length ce']) := L24.out.call hb25
      clear hb25 L24 M24
      go_wp2
      go_ret
      exact ⟨rfl, L25.out.below⟩
    · rw [szR_neg hsz2]
      go_wp2
      go_ret
      exact ⟨rfl, L2.out.below⟩
  · rw [szR_neg hsz]
    go_wp2
    go_ret
    exact ⟨rfl, L1.out.below⟩
end Go.Proofs.YtfjblenkcfdbiaaGreat
