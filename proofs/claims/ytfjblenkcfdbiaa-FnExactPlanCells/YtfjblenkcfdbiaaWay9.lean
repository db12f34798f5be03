
/-
  The cells along points: the specification's.
-/
import Derived.Test.YtfjblenkcfdbiaaWay8
import Derived.Test.YtfjblenkcfdbiaaWay6
import Derived.Test.YtfjblenkcfdbiaaFitsS2
namespace Go.Proofs.Ytfjblenkcfdbiaa
open Go.RowKit
set_option linter.unusedSimpArgs false
set_option linter.unusedVariables false

theorem l7Leg_any (a b : Cel) (w : World) (ha : a.In) (hb : b.In) :
    Calls Try.prog 60 #[cv a, cv b] w fun e w' => ∃ u, e = .returned u ∧ CNew w' w.heap.size u (legS a b) ∧ Below w.heap.size w w' := by
  cases h : lesser b a
  · rw [legS_no h]; exact l7LegU_any a b w ha hb h
  · rw [legS_yes h]; exact l7LegR_any a b w ha hb h
/-- In a list that is ascending both ways come to the same place. -/
theorem atI_plc {l : List Tri} {v : ByteArray} (h : ∀ i, i < l.length → ascB l i = true) (hv : hasB l v = true) : atI l v = ((plc l v : Nat) : Int) := by
  have hv' := hv
  unfold hasB at hv'
  rw [Bool.and_eq_true] at hv'
  have h1 := of_decide_eq_true hv'.1
  have h2 := of_decide_eq_true hv'.2
  refine atI_some h1 h2 fun j hj e => ?_
  have h3 := asc_lt h j (plc l v) hj h1
  rw [e, h2, blS_irrefl] at h3
  cases h3

set_option maxRecDepth 100000 in
set_option maxHeartbeats 6400000 in
theorem l7At_any (vk vp : Value) (ps : List Tri) (x : ByteArray) (w : World) (hp : TrisAt w vp ps) (hpp : pointsB ps = true) (hx : hasB ps x = true) :
    Calls Try.prog 59 #[.agg #[vk, vp], .string x] w fun e w' => e = .returned (cv (celOf ps x)) ∧ Below w.heap.size w w' := by
  have hpl : plc ps x < ps.length := by
    unfold hasB at hx
    rw [Bool.and_eq_true] at hx
    exact of_decide_eq_true hx.1
  have HAT : Hid (∀ wx : World, Below w.heap.size w wx → Calls Try.prog 93 #[.agg #[vk, vp], .string x] wx fun e w' => e = .returned (.int .i64 ((plc ps x : Nat) : Int)) ∧ Below wx.heap.size wx w') := fun wx hwx => by
    have h := l1Point_any vk vp ps x wx (hp.keep hwx)
    rw [atI_plc (points_asc hpp) hx] at h
    exact h
  obtain ⟨ap, cp, rfl, hp1, hp2, hpc⟩ := hp
  unfold maxLen at hp2
  obtain ⟨bP, oP, rfl, d0, d1, d2⟩ := hpc _ _ (at_get hpl)
  clear hpc
  have HC : Hid (celOf ps x = ⟨(at' ps (plc ps x)).x, (at' ps (plc ps x)).y⟩) := rfl
  have HD : Hid (w.cell? ⟨bP, oP + plc ps x * 3, none⟩ = some (.string (at' ps (plc ps x)).s) ∧ w.cell? ⟨bP, oP + plc ps x * 3 + 1, none⟩ = some (.int .i64 (at' ps (plc ps x)).x) ∧ w.cell? ⟨bP, oP + plc ps x * 3 + 2, none⟩ = some (.int .i64 (at' ps (plc ps x)).y)) := ⟨d0, d1, d2⟩
  clear d0 d1 d2
  have hj0 : (0 : Int) ≤ ((plc ps x : Nat) : Int) := by omega
  have hj1 : ((plc ps x : Nat) : Int) < (ps.length : Int) := by omega
  generalize at' ps (plc ps x) = tr at *
  generalize plc ps x = j at *
  have HB : Hid (Below w.heap.size w ((w.alloc (.cells #[vk, .slice (some ⟨bP, oP, none⟩) ps.length cp] 31)).alloc (.cells #[.int .i64 0, .int .i64 0] 97))) := ((Below.refl _ _).alloc (Nat.le_refl _) _).alloc (by simp) _
  have HS : Hid ((((w.alloc (.cells #[vk, .slice (some ⟨bP, oP, none⟩) ps.length cp] 31)).alloc (.cells #[.int .i64 0, .int .i64 0] 97)).cell? ⟨w.heap.size, 0, none⟩ = some vk ∧ ((w.alloc (.cells #[vk, .slice (some ⟨bP, oP, none⟩) ps.length cp] 31)).alloc (.cells #[.int .i64 0, .int .i64 0] 97)).cell? ⟨w.heap.size, 1, none⟩ = some (.slice (some ⟨bP, oP, none⟩) ps.length cp)) ∧ ((w.alloc (.cells #[vk, .slice (some ⟨bP, oP, none⟩) ps.length cp] 31)).alloc (.cells #[.int .i64 0, .int .i64 0] 97)).cell? ⟨bP, oP + j * 3, none⟩ = some (.string tr.s) ∧ ((w.alloc (.cells #[vk, .slice (some ⟨bP, oP, none⟩) ps.length cp] 31)).alloc (.cells #[.int .i64 0, .int .i64 0] 97)).cell? ⟨bP, oP + j * 3 + 1, none⟩ = some (.int .i64 tr.x) ∧ ((w.alloc (.cells #[vk, .slice (some ⟨bP, oP, none⟩) ps.length cp] 31)).alloc (.cells #[.int .i64 0, .int .i64 0] 97)).cell? ⟨bP, oP + j * 3 + 2, none⟩ = some (.int .i64 tr.y)) := by
    have hb := HB.out
    exact ⟨⟨by simp [go_sem], by simp [go_sem]⟩, cell_keep hb (Nat.le_refl _) HD.out.1, cell_keep hb (Nat.le_refl _) HD.out.2.1, cell_keep hb (Nat.le_refl _) HD.out.2.2⟩
  have HR : Hid (((w.alloc (.cells #[vk, .slice (some ⟨bP, oP, none⟩) ps.length cp] 31)).alloc (.cells #[.int .i64 0, .int .i64 0] 97)).heap[w.heap.size + 1]? = some (.cells #[.int .i64 0, .int .i64 0] 97 (0, 0))) := by
    have h := heap_newW (w.alloc (.cells #[vk, .slice (some ⟨bP, oP, none⟩) ps.length cp] 31)) (.cells #[.int .i64 0, .int .i64 0] 97)
    rw [show (w.alloc (.cells #[vk, .slice (some ⟨bP, oP, none⟩) ps.length cp] 31)).heap.size = w.heap.size + 1 by simp] at h
    exact h
  go_enter Try.func59, Try.ntmps59
  go_wp2_with fail
  generalize ((w.alloc (.cells #[vk, .slice (some ⟨bP, oP, none⟩) ps.length cp] 31)).alloc (.cells #[.int .i64 0, .int .i64 0] 97)) = w1 at *
  refine wp_region_noPanic ?_
  refine wp_region_held_drew (S := fun w' => (w'.cell? ⟨w.heap.size, 0, none⟩ = some vk ∧ w'.cell? ⟨w.heap.size, 1, none⟩ = some (.slice (some ⟨bP, oP, none⟩) ps.length cp)) ∧ w'.cell? ⟨bP, oP + j * 3, none⟩ = some (.string tr.s) ∧ w'.cell? ⟨bP, oP + j * 3 + 1, none⟩ = some (.int .i64 tr.x) ∧ w'.cell? ⟨bP, oP + j * 3 + 2, none⟩ = some (.int .i64 tr.y)) (by kernel_rfl) ?_ (fun hHeld => ?_)
  · exact ⟨⟨cell_keep (Below.refl _ _).drew (Nat.le_refl _) HS.out.1.1, cell_keep (Below.refl _ _).drew (Nat.le_refl _) HS.out.1.2⟩, cell_keep (Below.refl _ _).drew (Nat.le_refl _) HS.out.2.1, cell_keep (Below.refl _ _).drew (Nat.le_refl _) HS.out.2.2.1, cell_keep (Below.refl _ _).drew (Nat.le_refl _) HS.out.2.2.2⟩
  have I0 : Hid (Below w.heap.size w w1.drew ∧ ((w1.drew.cell? ⟨w.heap.size, 0, none⟩ = some vk ∧ w1.drew.cell? ⟨w.heap.size, 1, none⟩ = some (.slice (some ⟨bP, oP, none⟩) ps.length cp)) ∧ w1.drew.cell? ⟨bP, oP + j * 3, none⟩ = some (.string tr.s) ∧ w1.drew.cell? ⟨bP, oP + j * 3 + 1, none⟩ = some (.int .i64 tr.x) ∧ w1.drew.cell? ⟨bP, oP + j * 3 + 2, none⟩ = some (.int .i64 tr.y)) ∧ w1.drew.heap[w.heap.size + 1]? = some (.cells #[.int .i64 0, .int .i64 0] 97 (0, 0))) := ⟨below_step HB.out (Below.refl _ _).drew, hHeld, HR.out⟩
  generalize w1.drew = W at *
  refine wpAnyH_take (i := 0) (v := ?_) rfl (by kernel_rfl) (by kernel_rfl) (by kernel_rfl) (fun _ _ _ h => h) (Or.inl ⟨by rfl, ?_⟩) (by assumption) ?_
  rotate_left
  · intro w hSw; (try dsimp only at hSw); go_simp; try with_reducible rfl
  simp only [Act.put, List.setIfInBounds_toArray, List.set_cons_zero, List.set_cons_succ, List.getElem_toArray, List.getElem_cons_succ, List.getElem_cons_zero]
  refine wpAnyH_take (i := 1) (v := ?_) rfl (by kernel_rfl) (by kernel_rfl) (by kernel_rfl) (fun _ _ _ h => h) (Or.inl ⟨by rfl, ?_⟩) (by assumption) ?_
  rotate_left
  · intro w hSw; (try dsimp only at hSw); go_simp; try with_reducible rfl
  simp only [Act.put, List.setIfInBounds_toArray, List.set_cons_zero, List.set_cons_succ, List.getElem_toArray, List.getElem_cons_succ, List.getElem_cons_zero]
  refine wpAnyH_take (i := 2) (v := ?_) rfl (by kernel_rfl) (by kernel_rfl) (by kernel_rfl) (fun _ _ _ h => h) (Or.inl ⟨by rfl, ?_⟩) (by assumption) ?_
  rotate_left
  · intro w hSw; (try dsimp only at hSw); go_simp; try with_reducible rfl
  simp only [Act.put, List.setIfInBounds_toArray, List.set_cons_zero, List.set_cons_succ, List.getElem_toArray, List.getElem_cons_succ, List.getElem_cons_zero]
  refine wpAnyH_take (i := 3) (v := ?_) rfl (by kernel_rfl) (by kernel_rfl) (by kernel_rfl) (fun _ _ _ h => h) (Or.inl ⟨by rfl, ?_⟩) (by assumption) ?_
  rotate_left
  · intro w hSw; (try dsimp only at hSw); go_simp; try with_reducible rfl
  simp only [Act.put, List.setIfInBounds_toArray, List.set_cons_zero, List.set_cons_succ, List.getElem_toArray, List.getElem_cons_succ, List.getElem_cons_zero]
  clear hHeld
  refine wpAnyH_ready (rs := [4, 7]) (by kernel_rfl) (by simp) ?_
  refine AllReadyH.cons rfl (fun K hK => ?_) (AllReadyH.cons rfl (fun K hK => ?_) AllReadyH.nil)
  · go_simp
    refine (HAT.out _ I0.out.1).mono ?_
    rintro e W2 ⟨rfl, hbz⟩
    have I2 : Hid (Below w.heap.size w W2 ∧ ((W2.cell? ⟨w.heap.size, 0, none⟩ = some vk ∧ W2.cell? ⟨w.heap.size, 1, none⟩ = some (.slice (some ⟨bP, oP, none⟩) ps.length cp)) ∧ W2.cell? ⟨bP, oP + j * 3, none⟩ = some (.string tr.s) ∧ W2.cell? ⟨bP, oP + j * 3 + 1, none⟩ = some (.int .i64 tr.x) ∧ W2.cell? ⟨bP, oP + j * 3 + 2, none⟩ = some (.int .i64 tr.y)) ∧ W2.heap[w.heap.size + 1]? = some (.cells #[.int .i64 0, .int .i64 0] 97 (0, 0))) := ⟨below_step I0.out.1 hbz, ⟨⟨cell_keep hbz (Nat.le_refl _) I0.out.2.1.1.1, cell_keep hbz (Nat.le_refl _) I0.out.2.1.1.2⟩, cell_keep hbz (Nat.le_refl _) I0.out.2.1.2.1, cell_keep hbz (Nat.le_refl _) I0.out.2.1.2.2.1, cell_keep hbz (Nat.le_refl _) I0.out.2.1.2.2.2⟩, below_block hbz I0.out.2.2⟩
    refine hK.out _ _ I2.out.2.1 (fun _ => ?_)
    clear hK K hbz I0
    have hHeld := I2.out.2.1
    refine wpAnyH_take (i := 5) (v := ?_) rfl (by kernel_rfl) (by kernel_rfl) (by kernel_rfl) (fun _ _ _ h => h) (Or.inl ⟨by rfl, ?_⟩) (by assumption) ?_
    rotate_left
    · intro w hSw; (try dsimp only at hSw); go_simp; try with_reducible rfl
    simp only [Act.put, List.setIfInBounds_toArray, List.set_cons_zero, List.set_cons_succ, List.getElem_toArray, List.getElem_cons_succ, List.getElem_cons_zero]
    refine wpAnyH_take (i := 6) (v := ?_) rfl (by kernel_rfl) (by kernel_rfl) (by kernel_rfl) (fun _ _ _ h => h) (Or.inl ⟨by rfl, ?_⟩) (by assumption) ?_
    rotate_left
    · intro w hSw; (try dsimp only at hSw); go_simp; try with_reducible rfl
    simp only [Act.put, List.setIfInBounds_toArray, List.set_cons_zero, List.set_cons_succ, List.getElem_toArray, List.getElem_cons_succ, List.getElem_cons_zero]
    clear hHeld
    refine wpAnyH_ready (rs := [7]) (by kernel_rfl) (by simp) ?_
    refine AllReadyH.cons rfl (fun K hK => ?_) AllReadyH.nil
    go_simp
    have hbz : Below W2.heap.size W2 (W2.alloc (.cells #[.string ⟨#[]⟩, .int .i64 0, .int .i64 0] 76)) := (Below.refl _ _).alloc (Nat.le_refl _) _
    have I3 : Hid (Below w.heap.size w (W2.alloc (.cells #[.string ⟨#[]⟩, .int .i64 0, .int .i64 0] 76)) ∧ (((W2.alloc (.cells #[.string ⟨#[]⟩, .int .i64 0, .int .i64 0] 76)).cell? ⟨w.heap.size, 0, none⟩ = some vk ∧ (W2.alloc (.cells #[.string ⟨#[]⟩, .int .i64 0, .int .i64 0] 76)).cell? ⟨w.heap.size, 1, none⟩ = some (.slice (some ⟨bP, oP, none⟩) ps.length cp)) ∧ (W2.alloc (.cells #[.string ⟨#[]⟩, .int .i64 0, .int .i64 0] 76)).cell? ⟨bP, oP + j * 3, none⟩ = some (.string tr.s) ∧ (W2.alloc (.cells #[.string ⟨#[]⟩, .int .i64 0, .int .i64 0] 76)).cell? ⟨bP, oP + j * 3 + 1, none⟩ = some (.int .i64 tr.x) ∧ (W2.alloc (.cells #[.string ⟨#[]⟩, .int .i64 0, .int .i64 0] 76)).cell? ⟨bP, oP + j * 3 + 2, none⟩ = some (.int .i64 tr.y)) ∧ (W2.alloc (.cells #[.string ⟨#[]⟩, .int .i64 0, .int .i64 0] 76)).heap[w.heap.size + 1]? = some (.cells #[.int .i64 0, .int .i64 0] 97 (0, 0))) := ⟨below_step I2.out.1 hbz, ⟨⟨cell_keep hbz (Nat.le_refl _) I2.out.2.1.1.1, cell_keep hbz (Nat.le_refl _) I2.out.2.1.1.2⟩, cell_keep hbz (Nat.le_refl _) I2.out.2.1.2.1, cell_keep hbz (Nat.le_refl _) I2.out.2.1.2.2.1, cell_keep hbz (Nat.le_refl _) I2.out.2.1.2.2.2⟩, below_block hbz I2.out.2.2⟩
    have XZ : Hid ((W2.alloc (.cells #[.string ⟨#[]⟩, .int .i64 0, .int .i64 0] 76)).heap[W2.heap.size]? = some (.cells #[.string ⟨#[]⟩, .int .i64 0, .int .i64 0] 76 (0, 0))) := heap_newW W2 _
    have HXW : Hid (w.heap.size + 1 < W2.heap.size ∧ bP < W2.heap.size) := ⟨lt_of_block I2.out.2.2, lt_of_cell I2.out.2.1.2.1⟩
    refine hK.out _ _ I3.out.2.1 (fun _ => ?_)
    clear hK K hbz I2
    generalize (W2.alloc (.cells #[.string ⟨#[]⟩, .int .i64 0, .int .i64 0] 76)) = W3 at *
    generalize W2.heap.size = X at *
    refine wpAnyH_ready (rs := [8]) (by kernel_rfl) (by simp) ?_
    refine AllReadyH.cons rfl (fun K hK => ?_) AllReadyH.nil
    refine step_store_rowC rfl 76 _ _ rfl X #[.string tr.s, .int .i64 tr.x, .int .i64 tr.y] rfl rfl 76 _ XZ.out (by kernel_rfl) rfl (by simp [Value.oneCell']) ?_
    have HO : Hid (∀ q : Nat, q ≠ X → (W3.setRow X #[.string tr.s, .int .i64 tr.x, .int .i64 tr.y]).heap[q]? = W3.heap[q]?) := fun q hq => setRow_other _ _ _ _ hq
    have HXP : Hid ((W3.setRow X #[.string tr.s, .int .i64 tr.x, .int .i64 tr.y]).heap[X]? = some (.cells #[.string tr.s, .int .i64 tr.x, .int .i64 tr.y] 76 (0, 0))) := setRow_heap _ _ _ _ _ _ XZ.out
    have HBF : Hid (Below w.heap.size w (W3.setRow X #[.string tr.s, .int .i64 tr.x, .int .i64 tr.y])) := below_setRow I3.out.1 (by have := HXW.out; omega) _
    generalize (W3.setRow X #[.string tr.s, .int .i64 tr.x, .int .i64 tr.y]) = wf at *
    have hHeld : (wf.cell? ⟨w.heap.size, 0, none⟩ = some vk ∧ wf.cell? ⟨w.heap.size, 1, none⟩ = some (.slice (some ⟨bP, oP, none⟩) ps.length cp)) ∧ wf.cell? ⟨bP, oP + j * 3, none⟩ = some (.string tr.s) ∧ wf.cell? ⟨bP, oP + j * 3 + 1, none⟩ = some (.int .i64 tr.x) ∧ wf.cell? ⟨bP, oP + j * 3 + 2, none⟩ = some (.int .i64 tr.y) := ⟨⟨(World.cell?_of_block (HO.out w.heap.size (by have := HXW.out; omega))).trans I3.out.2.1.1.1, (World.cell?_of_block (HO.out w.heap.size (by have := HXW.out; omega))).trans I3.out.2.1.1.2⟩, (World.cell?_of_block (HO.out bP (by have := HXW.out; omega))).trans I3.out.2.1.2.1, (World.cell?_of_block (HO.out bP (by have := HXW.out; omega))).trans I3.out.2.1.2.2.1, (World.cell?_of_block (HO.out bP (by have := HXW.out; omega))).trans I3.out.2.1.2.2.2⟩
    refine hK.out _ _ hHeld (fun _ => ?_)
    clear hK K hHeld
    have hR : wf.heap[w.heap.size + 1]? = some (.cells #[.int .i64 0, .int .i64 0] 97 (0, 0)) := (HO.out _ (by have := HXW.out; omega)).trans I3.out.2.2
    have hxp := HXP.out
    have y1 : wf.cell? ⟨X, 1, none⟩ = some (.int .i64 tr.x) := by simp [World.cell?, hxp]
    have y2 : wf.cell? ⟨X, 2, none⟩ = some (.int .i64 tr.y) := by simp [World.cell?, hxp]
    clear hxp I3
    refine wpAnyH_done (by kernel_rfl) ?_ _
    refine NoPanic.normal ?_
    go_wp2_with (refine wpList_store_row rfl 97 _ _ rfl (w.heap.size + 1) #[.int .i64 tr.x, .int .i64 tr.y] rfl rfl 97 _ hR (by kernel_rfl) rfl (by simp [Value.oneCell']) ?_)
    exact bodyPost_ret (v := .agg #[.int .i64 tr.x, .int .i64 tr.y]) (by simp [results, Try.results59, go_sem, cell_setRow_same _ _ _ _ _ _ _ hR]) rfl ⟨by rw [HC.out], below_setRow HBF.out (by omega) _⟩
  · go_simp
    have hbz : Below W.heap.size W (W.alloc (.cells #[.string ⟨#[]⟩, .int .i64 0, .int .i64 0] 76)) := (Below.refl _ _).alloc (Nat.le_refl _) _
    have I2 : Hid (Below w.heap.size w (W.alloc (.cells #[.string ⟨#[]⟩, .int .i64 0, .int .i64 0] 76)) ∧ (((W.alloc (.cells #[.string ⟨#[]⟩, .int .i64 0, .int .i64 0] 76)).cell? ⟨w.heap.size, 0, none⟩ = some vk ∧ (W.alloc (.cells #[.string ⟨#[]⟩, .int .i64 0, .int .i64 0] 76)).cell? ⟨w.heap.size, 1, none⟩ = some (.slice (some ⟨bP, oP, none⟩) ps.length cp)) ∧ (W.alloc (.cells #[.string ⟨#[]⟩, .int .i64 0, .int .i64 0] 76)).cell? ⟨bP, oP + j * 3, none⟩ = some (.string tr.s) ∧ (W.alloc (.cells #[.string ⟨#[]⟩, .int .i64 0, .int .i64 0] 76)).cell? ⟨bP, oP + j * 3 + 1, none⟩ = some (.int .i64 tr.x) ∧ (W.alloc (.cells #[.string ⟨#[]⟩, .int .i64 0, .int .i64 0] 76)).cell? ⟨bP, oP + j * 3 + 2, none⟩ = some (.int .i64 tr.y)) ∧ (W.alloc (.cells #[.string ⟨#[]⟩, .int .i64 0, .int .i64 0] 76)).heap[w.heap.size + 1]? = some (.cells #[.int .i64 0, .int .i64 0] 97 (0, 0))) := ⟨below_step I0.out.1 hbz, ⟨⟨cell_keep hbz (Nat.le_refl _) I0.out.2.1.1.1, cell_keep hbz (Nat.le_refl _) I0.out.2.1.1.2⟩, cell_keep hbz (Nat.le_refl _) I0.out.2.1.2.1, cell_keep hbz (Nat.le_refl _) I0.out.2.1.2.2.1, cell_keep hbz (Nat.le_refl _) I0.out.2.1.2.2.2⟩, below_block hbz I0.out.2.2⟩
    have XZ : Hid ((W.alloc (.cells #[.string ⟨#[]⟩, .int .i64 0, .int .i64 0] 76)).heap[W.heap.size]? = some (.cells #[.string ⟨#[]⟩, .int .i64 0, .int .i64 0] 76 (0, 0))) := heap_newW W _
    have HXW : Hid (w.heap.size + 1 < W.heap.size ∧ bP < W.heap.size) := ⟨lt_of_block I0.out.2.2, lt_of_cell I0.out.2.1.2.1⟩
    refine hK.out _ _ I2.out.2.1 (fun _ => ?_)
    clear hK K hbz I0
    generalize (W.alloc (.cells #[.string ⟨#[]⟩, .int .i64 0, .int .i64 0] 76)) = W2 at *
    generalize W.heap.size = X at *
    refine wpAnyH_ready (rs := [4]) (by kernel_rfl) (by simp) ?_
    refine AllReadyH.cons rfl (fun K hK => ?_) AllReadyH.nil
    go_simp
    refine (HAT.out _ I2.out.1).mono ?_
    rintro e W3 ⟨rfl, hbz⟩
    have I3 : Hid (Below w.heap.size w W3 ∧ ((W3.cell? ⟨w.heap.size, 0, none⟩ = some vk ∧ W3.cell? ⟨w.heap.size, 1, none⟩ = some (.slice (some ⟨bP, oP, none⟩) ps.length cp)) ∧ W3.cell? ⟨bP, oP + j * 3, none⟩ = some (.string tr.s) ∧ W3.cell? ⟨bP, oP + j * 3 + 1, none⟩ = some (.int .i64 tr.x) ∧ W3.cell? ⟨bP, oP + j * 3 + 2, none⟩ = some (.int .i64 tr.y)) ∧ W3.heap[w.heap.size + 1]? = some (.cells #[.int .i64 0, .int .i64 0] 97 (0, 0))) := ⟨below_step I2.out.1 hbz, ⟨⟨cell_keep hbz (Nat.le_refl _) I2.out.2.1.1.1, cell_keep hbz (Nat.le_refl _) I2.out.2.1.1.2⟩, cell_keep hbz (Nat.le_refl _) I2.out.2.1.2.1, cell_keep hbz (Nat.le_refl _) I2.out.2.1.2.2.1, cell_keep hbz (Nat.le_refl _) I2.out.2.1.2.2.2⟩, below_block hbz I2.out.2.2⟩
    have XZ2 : Hid (W3.heap[X]? = some (.cells #[.string ⟨#[]⟩, .int .i64 0, .int .i64 0] 76 (0, 0))) := below_block hbz XZ.out
    refine hK.out _ _ I3.out.2.1 (fun _ => ?_)
    clear hK K hbz I2
    clear XZ
    have XZ := XZ2
    clear XZ2
    have hHeld := I3.out.2.1
    refine wpAnyH_take (i := 5) (v := ?_) rfl (by kernel_rfl) (by kernel_rfl) (by kernel_rfl) (fun _ _ _ h => h) (Or.inl ⟨by rfl, ?_⟩) (by assumption) ?_
    rotate_left
    · intro w hSw; (try dsimp only at hSw); go_simp; try with_reducible rfl
    simp only [Act.put, List.setIfInBounds_toArray, List.set_cons_zero, List.set_cons_succ, List.getElem_toArray, List.getElem_cons_succ, List.getElem_cons_zero]
    refine wpAnyH_take (i := 6) (v := ?_) rfl (by kernel_rfl) (by kernel_rfl) (by kernel_rfl) (fun _ _ _ h => h) (Or.inl ⟨by rfl, ?_⟩) (by assumption) ?_
    rotate_left
    · intro w hSw; (try dsimp only at hSw); go_simp; try with_reducible rfl
    simp only [Act.put, List.setIfInBounds_toArray, List.set_cons_zero, List.set_cons_succ, List.getElem_toArray, List.getElem_cons_succ, List.getElem_cons_zero]
    clear hHeld
    refine wpAnyH_ready (rs := [8]) (by kernel_rfl) (by simp) ?_
    refine AllReadyH.cons rfl (fun K hK => ?_) AllReadyH.nil
    refine step_store_rowC rfl 76 _ _ rfl X #[.string tr.s, .int .i64 tr.x, .int .i64 tr.y] rfl rfl 76 _ XZ.out (by kernel_rfl) rfl (by simp [Value.oneCell']) ?_
    have HO : Hid (∀ q : Nat, q ≠ X → (W3.setRow X #[.string tr.s, .int .i64 tr.x, .int .i64 tr.y]).heap[q]? = W3.heap[q]?) := fun q hq => setRow_other _ _ _ _ hq
    have HXP : Hid ((W3.setRow X #[.string tr.s, .int .i64 tr.x, .int .i64 tr.y]).heap[X]? = some (.cells #[.string tr.s, .int .i64 tr.x, .int .i64 tr.y] 76 (0, 0))) := setRow_heap _ _ _ _ _ _ XZ.out
    have HBF : Hid (Below w.heap.size w (W3.setRow X #[.string tr.s, .int .i64 tr.x, .int .i64 tr.y])) := below_setRow I3.out.1 (by have := HXW.out; omega) _
    generalize (W3.setRow X #[.string tr.s, .int .i64 tr.x, .int .i64 tr.y]) = wf at *
    have hHeld : (wf.cell? ⟨w.heap.size, 0, none⟩ = some vk ∧ wf.cell? ⟨w.heap.size, 1, none⟩ = some (.slice (some ⟨bP, oP, none⟩) ps.length cp)) ∧ wf.cell? ⟨bP, oP + j * 3, none⟩ = some (.string tr.s) ∧ wf.cell? ⟨bP, oP + j * 3 + 1, none⟩ = some (.int .i64 tr.x) ∧ wf.cell? ⟨bP, oP + j * 3 + 2, none⟩ = some (.int .i64 tr.y) := ⟨⟨(World.cell?_of_block (HO.out w.heap.size (by have := HXW.out; omega))).trans I3.out.2.1.1.1, (World.cell?_of_block (HO.out w.heap.size (by have := HXW.out; omega))).trans I3.out.2.1.1.2⟩, (World.cell?_of_block (HO.out bP (by have := HXW.out; omega))).trans I3.out.2.1.2.1, (World.cell?_of_block (HO.out bP (by have := HXW.out; omega))).trans I3.out.2.1.2.2.1, (World.cell?_of_block (HO.out bP (by have := HXW.out; omega))).trans I3.out.2.1.2.2.2⟩
    refine hK.out _ _ hHeld (fun _ => ?_)
    clear hK K hHeld
    have hR : wf.heap[w.heap.size + 1]? = some (.cells #[.int .i64 0, .int .i64 0] 97 (0, 0)) := (HO.out _ (by have := HXW.out; omega)).trans I3.out.2.2
    have hxp := HXP.out
    have y1 : wf.cell? ⟨X, 1, none⟩ = some (.int .i64 tr.x) := by simp [World.cell?, hxp]
    have y2 : wf.cell? ⟨X, 2, none⟩ = some (.int .i64 tr.y) := by simp [World.cell?, hxp]
    clear hxp I3
    refine wpAnyH_done (by kernel_rfl) ?_ _
    refine NoPanic.normal ?_
    go_wp2_with (refine wpList_store_row rfl 97 _ _ rfl (w.heap.size + 1) #[.int .i64 tr.x, .int .i64 tr.y] rfl rfl 97 _ hR (by kernel_rfl) rfl (by simp [Value.oneCell']) ?_)
    exact bodyPost_ret (v := .agg #[.int .i64 tr.x, .int .i64 tr.y]) (by simp [results, Try.results59, go_sem, cell_setRow_same _ _ _ _ _ _ _ hR]) rfl ⟨by rw [HC.out], below_setRow HBF.out (by omega) _⟩
end Go.Proofs.Ytfjblenkcfdbiaa
