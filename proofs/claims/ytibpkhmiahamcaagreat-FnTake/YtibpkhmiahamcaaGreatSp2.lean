
/-
 Drawing: books, one in sixteen spoilt.
-/
import Derived.Test.YtibpkhmiahamcaaGreatSp1
namespace Go.Proofs.YtibpkhmiahamcaaGreat.Dr
open Go.RowKit Go.Proofs.YtibpkhmiahamcaaGreat
attribute [local go_sem] Later.cell Later.frozen
set_option linter.unusedSimpArgs false
set_option linter.unusedVariables false

theorem BookAt.slices {w : World} {vk vp ve : Value} {ks ps : List Tri} {es : List Ent} (h : BookAt w vk vp ve ks ps es) : ∃ a1 c1 a2 c2 a3 c3, vk = .slice a1 ks.length c1 ∧ vp = .slice a2 ps.length c2 ∧ ve = .slice a3 es.length c3 := by
 obtain ⟨⟨a1, c1, h1, -⟩, ⟨a2, c2, h2, -⟩, ⟨a3, c3, h3, -⟩⟩ := h
 exact ⟨a1, c1, a2, c2, a3, c3, h1, h2, h3⟩
theorem BookNew.toFar {lo : Nat} {w : World} {x y z : Value} {ks ps : List Tri} {es : List Ent} (h : BookNew lo w x y z ks ps es) : BookFar lo w x y z ks ps es := fun w' hw => (BookNew.lt h hw).at
theorem sp_of {ks ps : List Tri} {es : List Ent} (hk : kindsB ks = true) (hp : pointsB ps = true) (h : SmB (ks, ps, es)) : SpB ks ps es :=
 ⟨h, by have := (points_le hp).1; omega, fun t ht => by have := (points_le hp).2 t ht; omega⟩
set_option maxRecDepth 100000 in
set_option maxHeartbeats 6400000 in
theorem l3Any_any (R p : Nat) (w : World) (h : Rd w R p) (hp : p ≤ 500000) :
  Calls Tryz.prog 21 #[.pointer (some ⟨R, 0, none⟩)] w fun e w' => ∃ (x y z : Value) (ks ps : List Tri) (es : List Ent), e = .returned (.agg #[x, y, z]) ∧ BookFar w.heap.size w' x y z ks ps es ∧ SpB ks ps es ∧ Out w R p 1500 w' := by
 have hRlt := h.lt
 have HB : Hid (Below w.heap.size w (w.alloc (.cells #[.slice none 0 0, .slice none 0 0, .slice none 0 0] 29))) := (Below.refl _ _).alloc (Nat.le_refl _) _
 have HR1 : Hid (Rd (w.alloc (.cells #[.slice none 0 0, .slice none 0 0, .slice none 0 0] 29)) R p) := h.far HB.out
 have HX1 : Hid ((w.alloc (.cells #[.slice none 0 0, .slice none 0 0, .slice none 0 0] 29)).heap[w.heap.size]? = some (.cells #[.slice none 0 0, .slice none 0 0, .slice none 0 0] 29 (0, 0))) := heap_newD w _
 clear h
 go_enter Tryz.func21, Tryz.ntmps21
 go_wp2_with fail
 generalize (w.alloc (.cells #[.slice none 0 0, .slice none 0 0, .slice none 0 0] 29)) = w1 at *
 refine (l1Base_all R p _ HR1.out (by omega)).mono ?_
 rintro e w2 ⟨kv, pv, ks, ps, rfl, htk, htp, hkb, hpb, hp1, hk1, q2, hq0, hq1, hr2, hg2⟩
 have G2 : Hid (Rd w2 R q2 ∧ w.grownBy w2 (some R) ∧ w2.heap[w.heap.size]? = some (.cells #[.slice none 0 0, .slice none 0 0, .slice none 0 0] 29 (0, 0))) := ⟨hr2, grown_on (grown_of HB.out _) hg2, box_keep hg2 (by omega) HX1.out⟩
 have HK := toHid htk
 have HP := toHid htp
 obtain ⟨ka, kc, rfl⟩ := own_sliceD htk
 obtain ⟨pa, pc, rfl⟩ := own_sliceD htp
 have KB := toHid hkb
 have PB := toHid hpb
 clear hr2 hg2 HB HX1 HR1 htk htp hkb hpb
 go_wp2_with fail
 refine (l3Book_any R q2 _ _ ks ps _ G2.out.1 (by omega) (tris_own HK.out) (tris_own HP.out) KB.out PB.out hp1).mono ?_
 rintro e w3 ⟨x, y, z, es, rfl, hbn, hok, hsm, q3, hq2, hq3, hr3, hg3⟩
 obtain ⟨a1, c1, a2, c2, a3, c3, rfl, rfl, rfl⟩ := hbn.slices
 have G3 : Hid (Rd w3 R q3 ∧ w.grownBy w3 (some R) ∧ w3.heap[w.heap.size]? = some (.cells #[.slice none 0 0, .slice none 0 0, .slice none 0 0] 29 (0, 0)) ∧ BookFar (w.heap.size + 1) w3 (.slice a1 ks.length c1) (.slice a2 ps.length c2) (.slice a3 es.length c3) ks ps es) := ⟨hr3, grown_on G2.out.2.1 hg3, box_keep hg3 (by omega) G2.out.2.2, (BookNew.toFar hbn).mono (by have := lt_blk G2.out.2.2; omega)⟩
 have OK := toHid hok
 have SM := toHid hsm
 clear hr3 hg3 hbn hok hsm HK HP G2
 have B4 : Hid (Below w3.heap.size w3 (w3.alloc (.cells #[.slice a1 ks.length c1, .slice a2 ps.length c2, .slice a3 es.length c3] 29))) := (Below.refl _ _).alloc (Nat.le_refl _) _
 have X4 : Hid ((w3.alloc (.cells #[.slice a1 ks.length c1, .slice a2 ps.length c2, .slice a3 es.length c3] 29)).heap[w3.heap.size]? = some (.cells #[.slice a1 ks.length c1, .slice a2 ps.length c2, .slice a3 es.length c3] 29 (0, 0))) := heap_newD w3 _
 have hz3 : w.heap.size < w3.heap.size := lt_blk G3.out.2.2.1
 go_wp2_with fail
 have hRB : w3.heap.size ≠ R := by have := G3.out.1.lt; omega
 have G4 : Hid (Rd (w3.alloc (.cells #[.slice a1 ks.length c1, .slice a2 ps.length c2, .slice a3 es.length c3] 29)) R q3 ∧ w.grownBy (w3.alloc (.cells #[.slice a1 ks.length c1, .slice a2 ps.length c2, .slice a3 es.length c3] 29)) (some R) ∧ (w3.alloc (.cells #[.slice a1 ks.length c1, .slice a2 ps.length c2, .slice a3 es.length c3] 29)).heap[w.heap.size]? = some (.cells #[.slice none 0 0, .slice none 0 0, .slice none 0 0] 29 (0, 0)) ∧ BookFar (w.heap.size + 1) (w3.alloc (.cells #[.slice a1 ks.length c1, .slice a2 ps.length c2, .slice a3 es.length c3] 29)) (.slice a1 ks.length c1) (.slice a2 ps.length c2) (.slice a3 es.length c3) ks ps es) := ⟨G3.out.1.far B4.out, grown_on G3.out.2.1 (grown_of B4.out _), (B4.out.block _ hz3).trans G3.out.2.2.1, G3.out.2.2.2.to B4.out.size (fun b _ h2 => B4.out.block b h2)⟩
 generalize (w3.alloc (.cells #[.slice a1 ks.length c1, .slice a2 ps.length c2, .slice a3 es.length c3] 29)) = w4 at *
 generalize w3.heap.size = B at *
 clear B4 G3
 refine (pick_any R q3 16 _ G4.out.1 (by omega) (by omega)).mono ?_
 rintro e w5 ⟨y, rfl, hy0, hy1, -, hr5, hg5⟩
 have G5 : Hid (Rd w5 R (q3 + 1) ∧ w.grownBy w5 (some R) ∧ w5.heap[w.heap.size]? = some (.cells #[.slice none 0 0, .slice none 0 0, .slice none 0 0] 29 (0, 0)) ∧ BookFar (w.heap.size + 1) w5 (.slice a1 ks.length c1) (.slice a2 ps.length c2) (.slice a3 es.length c3) ks ps es) := ⟨hr5, grown_on G4.out.2.1 hg5, box_keep hg5 (by omega) G4.out.2.2.1, G4.out.2.2.2.to hg5.size (fun b h1 h2 => hg5.block b h2 (fun e => by injection e; omega))⟩
 have X5 := box_keep hg5 hRB X4.out
 have b0 := cell_blkD X5 (i := 0) rfl
 have b1 := cell_blkD X5 (i := 1) rfl
 have b2 := cell_blkD X5 (i := 2) rfl
 clear hr5 hg5 G4 X4 X5 hy1
 by_cases hy : y = 0
 ·have hyb : (y == 0) = true := by simp [hy]
  clear hy
  go_wp2_with fail
  refine (l3Spoil_any R (q3 + 1) _ _ _ ks ps es _ G5.out.1 (by omega) G5.out.2.2.2.at OK.out SM.out hk1 hp1).mono ?_
  rintro e w6 ⟨x', y', z', ks', ps', es', rfl, hat, hsp, q6, hq6, hq7, hr6, hg6⟩
  obtain ⟨d1, f1, d2, f2, d3, f3, rfl, rfl, rfl⟩ := BookAt.slices hat.at
  have G6 : Hid (Rd w6 R q6 ∧ w.grownBy w6 (some R) ∧ w6.heap[w.heap.size]? = some (.cells #[.slice none 0 0, .slice none 0 0, .slice none 0 0] 29 (0, 0)) ∧ BookFar (w.heap.size + 1) w6 (.slice d1 ks'.length f1) (.slice d2 ps'.length f2) (.slice d3 es'.length f3) ks' ps' es') := ⟨hr6, grown_on G5.out.2.1 hg6, box_keep hg6 (by omega) G5.out.2.2.1, hat.mono (lt_blk G5.out.2.2.1)⟩
  have SP := toHid hsp
  clear hr6 hg6 hat hsp G5 b0 b1 b2
  have hR9 := G6.out.2.2.1
  have HFI : Hid (BookFar w.heap.size (w6.setRow w.heap.size #[.slice d1 ks'.length f1, .slice d2 ps'.length f2, .slice d3 es'.length f3]) (.slice d1 ks'.length f1) (.slice d2 ps'.length f2) (.slice d3 es'.length f3) ks' ps' es' ∧ SpB ks' ps' es' ∧ Out w R p 1500 (w6.setRow w.heap.size #[.slice d1 ks'.length f1, .slice d2 ps'.length f2, .slice d3 es'.length f3])) := by
   have ho : ∀ b, b ≠ w.heap.size → (w6.setRow w.heap.size #[.slice d1 ks'.length f1, .slice d2 ps'.length f2, .slice d3 es'.length f3]).heap[b]? = w6.heap[b]? := fun b hb => setRow_other _ _ _ _ hb
   exact ⟨(G6.out.2.2.2.to (by simp) (fun b h1 _ => ho b (by omega))).mono (by omega), SP.out, q6, by omega, by omega, G6.out.1.late (fun j hj => ho j (by omega)), grown_row G6.out.2.1 _ (Nat.le_refl _)⟩
  go_wp2_with (refine wpList_store_row rfl 29 _ _ rfl w.heap.size #[.slice d1 ks'.length f1, .slice d2 ps'.length f2, .slice d3 es'.length f3] rfl rfl 29 _ hR9 (by kernel_rfl) rfl (by simp [Value.oneCell']) ?_)
  exact bodyPost_ret (v := .agg #[.slice d1 ks'.length f1, .slice d2 ps'.length f2, .slice d3 es'.length f3]) (by simp [results, Tryz.results21, go_sem, cell_setRow_same _ _ _ _ _ _ _ hR9]) rfl ⟨_, _, _, ks', ps', es', rfl, HFI.out⟩
 ·have hyb : (y == 0) = false := by simp [hy]
  clear hy
  have hR9 := G5.out.2.2.1
  have HFI : Hid (BookFar w.heap.size (w5.setRow w.heap.size #[.slice a1 ks.length c1, .slice a2 ps.length c2, .slice a3 es.length c3]) (.slice a1 ks.length c1) (.slice a2 ps.length c2) (.slice a3 es.length c3) ks ps es ∧ SpB ks ps es ∧ Out w R p 1500 (w5.setRow w.heap.size #[.slice a1 ks.length c1, .slice a2 ps.length c2, .slice a3 es.length c3])) := by
   have ho : ∀ b, b ≠ w.heap.size → (w5.setRow w.heap.size #[.slice a1 ks.length c1, .slice a2 ps.length c2, .slice a3 es.length c3]).heap[b]? = w5.heap[b]? := fun b hb => setRow_other _ _ _ _ hb
   exact ⟨(G5.out.2.2.2.to (by simp) (fun b h1 _ => ho b (by omega))).mono (by omega), sp_of KB.out PB.out SM.out, q3 + 1, by omega, by omega, G5.out.1.late (fun j hj => ho j (by omega)), grown_row G5.out.2.1 _ (Nat.le_refl _)⟩
  go_wp2_with (refine wpList_store_row rfl 29 _ _ rfl w.heap.size #[.slice a1 ks.length c1, .slice a2 ps.length c2, .slice a3 es.length c3] rfl rfl 29 _ hR9 (by kernel_rfl) rfl (by simp [Value.oneCell']) ?_)
  exact bodyPost_ret (v := .agg #[.slice a1 ks.length c1, .slice a2 ps.length c2, .slice a3 es.length c3]) (by simp [results, Tryz.results21, go_sem, cell_setRow_same _ _ _ _ _ _ _ hR9]) rfl ⟨_, _, _, ks, ps, es, rfl, HFI.out⟩
end Go.Proofs.YtibpkhmiahamcaaGreat.Dr
