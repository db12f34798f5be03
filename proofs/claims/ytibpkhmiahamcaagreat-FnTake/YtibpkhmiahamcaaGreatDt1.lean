
/-
 Drawing: a book and a change.
-/
import Derived.Test.YtibpkhmiahamcaaGreatSp2
import Derived.Test.YtibpkhmiahamcaaGreatTkH
namespace Go.Proofs.YtibpkhmiahamcaaGreat.Dr
open Go.RowKit Go.Proofs.YtibpkhmiahamcaaGreat
attribute [local go_sem] Later.cell Later.frozen
set_option linter.unusedSimpArgs false
set_option linter.unusedVariables false

/-- While a book and a change are drawn: the results' boxes, the reader, the book above them. -/
structure DT (w z : World) (R q bs : Nat) (x y u : Value) (ks ps : List Tri) (es : List Ent) : Prop where
 rd : Rd z R q
 bl : Below w.heap.size w z
 r0 : z.heap[w.heap.size]? = some (.cells #[.slice none 0 0, .slice none 0 0, .slice none 0 0] 29 (0, 0))
 r1 : z.heap[w.heap.size + 1]? = some (.cells #[.string ⟨#[]⟩, .int .i64 0, .int .i64 0, .string ⟨#[]⟩] 31 (0, 0))
 bk : BookFar bs z x y u ks ps es
theorem DT.call {w z z' : World} {R q bs : Nat} {x y u : Value} {ks ps : List Tri} {es : List Ent} (h : DT w z R q bs x y u ks ps es) (hb : Below z.heap.size z z') : DT w z' R q bs x y u ks ps es :=
 ⟨h.rd.far hb, below_step h.bl hb, (hb.block _ (lt_blk h.r0)).trans h.r0, (hb.block _ (lt_blk h.r1)).trans h.r1, h.bk.to hb.size (fun b _ h2 => hb.block b h2)⟩
theorem DT.grow {w z z' : World} {R q q' bs : Nat} {x y u : Value} {ks ps : List Tri} {es : List Ent} (h : DT w z R q bs x y u ks ps es) (hR : w.heap.size + 1 < R) (hb : R < bs) (hr : Rd z' R q') (hg : z.grownBy z' (some R)) : DT w z' R q' bs x y u ks ps es :=
 ⟨hr, below_grown h.bl hg (by omega), box_keep hg (by omega) h.r0, box_keep hg (by omega) h.r1, h.bk.to hg.size (fun b h1 h2 => hg.block b h2 (fun e => by injection e; omega))⟩
theorem held7 {z : World} {B C : Nat} {k p x a b c d : Value} (hB : z.heap[B]? = some (.cells #[k, p, x] 29 (0, 0))) (hC : z.heap[C]? = some (.cells #[a, b, c, d] 31 (0, 0))) :
  (z.cell? ⟨B, 0, none⟩ = some k ∧ z.cell? ⟨B, 1, none⟩ = some p ∧ z.cell? ⟨B, 2, none⟩ = some x) ∧ z.cell? ⟨C, 0, none⟩ = some a ∧ z.cell? ⟨C, 1, none⟩ = some b ∧ z.cell? ⟨C, 2, none⟩ = some c ∧ z.cell? ⟨C, 3, none⟩ = some d :=
 ⟨⟨cell_blkD hB rfl, cell_blkD hB rfl, cell_blkD hB rfl⟩, cell_blkD hC rfl, cell_blkD hC rfl, cell_blkD hC rfl, cell_blkD hC rfl⟩
set_option maxRecDepth 100000 in
set_option maxHeartbeats 6400000 in
theorem drawTake_any (v : Value) (n : Nat) (w : World) (h : BysArg w v n) :
  Calls Tryz.prog 5 #[v] w fun e w' => ∃ (x y z : Value) (ks ps : List Tri) (es : List Ent) (c : Chg), e = .returned (.tuple #[.agg #[x, y, z], .agg #[.string c.f, .int .i64 c.what, .int .i64 c.num, .string c.v]]) ∧ BookAt w' x y z ks ps es ∧ SpB ks ps es ∧ c.f.size ≤ 2000 ∧ c.v.size ≤ 2000 ∧ Below w.heap.size w w' := by
 have HA := toHid h
 obtain ⟨a, cap, rfl, -⟩ := h
 have HB : Hid (Below w.heap.size w ((w.alloc (.cells #[.slice none 0 0, .slice none 0 0, .slice none 0 0] 29)).alloc (.cells #[.string ⟨#[]⟩, .int .i64 0, .int .i64 0, .string ⟨#[]⟩] 31))) := ((Below.refl _ _).alloc (Nat.le_refl _) _).alloc (by simp) _
 have HX0 : Hid (((w.alloc (.cells #[.slice none 0 0, .slice none 0 0, .slice none 0 0] 29)).alloc (.cells #[.string ⟨#[]⟩, .int .i64 0, .int .i64 0, .string ⟨#[]⟩] 31)).heap[w.heap.size]? = some (.cells #[.slice none 0 0, .slice none 0 0, .slice none 0 0] 29 (0, 0))) := by
  show _ = _
  rw [((Below.refl _ _).alloc (Nat.le_refl _) _ : Below (w.alloc (.cells #[.slice none 0 0, .slice none 0 0, .slice none 0 0] 29)).heap.size (w.alloc (.cells #[.slice none 0 0, .slice none 0 0, .slice none 0 0] 29)) ((w.alloc (.cells #[.slice none 0 0, .slice none 0 0, .slice none 0 0] 29)).alloc (.cells #[.string ⟨#[]⟩, .int .i64 0, .int .i64 0, .string ⟨#[]⟩] 31))).block _ (by simp)]
  exact heap_newD w _
 have HX1 : Hid (((w.alloc (.cells #[.slice none 0 0, .slice none 0 0, .slice none 0 0] 29)).alloc (.cells #[.string ⟨#[]⟩, .int .i64 0, .int .i64 0, .string ⟨#[]⟩] 31)).heap[w.heap.size + 1]? = some (.cells #[.string ⟨#[]⟩, .int .i64 0, .int .i64 0, .string ⟨#[]⟩] 31 (0, 0))) := by
  have h := heap_newD (w.alloc (.cells #[.slice none 0 0, .slice none 0 0, .slice none 0 0] 29)) (.cells #[.string ⟨#[]⟩, .int .i64 0, .int .i64 0, .string ⟨#[]⟩] 31)
  rw [show (w.alloc (.cells #[.slice none 0 0, .slice none 0 0, .slice none 0 0] 29)).heap.size = w.heap.size + 1 by simp] at h
  exact h
 go_enter Tryz.func5, Tryz.ntmps5
 go_wp2_with fail
 generalize ((w.alloc (.cells #[.slice none 0 0, .slice none 0 0, .slice none 0 0] 29)).alloc (.cells #[.string ⟨#[]⟩, .int .i64 0, .int .i64 0, .string ⟨#[]⟩] 31)) = w1 at *
 refine (l1Open_any _ n _ (HA.out.keep HB.out)).mono ?_
 rintro e w2 ⟨R, rfl, hR, hr2, hb2⟩
 have hRw : w.heap.size + 1 < R := by have := lt_blk HX1.out; omega
 have R2 : Hid (Rd w2 R 0 ∧ Below w.heap.size w w2 ∧ w2.heap[w.heap.size]? = some (.cells #[.slice none 0 0, .slice none 0 0, .slice none 0 0] 29 (0, 0)) ∧ w2.heap[w.heap.size + 1]? = some (.cells #[.string ⟨#[]⟩, .int .i64 0, .int .i64 0, .string ⟨#[]⟩] 31 (0, 0))) :=
  ⟨hr2, below_step HB.out hb2, (hb2.block _ (lt_blk HX0.out)).trans HX0.out, (hb2.block _ (lt_blk HX1.out)).trans HX1.out⟩
 clear hr2 hb2 hR HX0 HX1 HB
 go_wp2_with fail
 refine (l3Any_any R 0 _ R2.out.1 (by omega)).mono ?_
 rintro e w3 ⟨x, y, z, ks, ps, es, rfl, hat, hsp, q3, hq0, hq1, hr3, hg3⟩
 have D3 : Hid (DT w w3 R q3 w2.heap.size x y z ks ps es) := ⟨hr3, below_grown R2.out.2.1 hg3 (by omega), box_keep hg3 (by omega) R2.out.2.2.1, box_keep hg3 (by omega) R2.out.2.2.2, hat⟩
 have hRb : R < w2.heap.size := R2.out.1.lt
 generalize w2.heap.size = bs at *
 obtain ⟨a1, c1, a2, c2, a3, c3, rfl, rfl, rfl⟩ := BookAt.slices hat.at
 have SP := toHid hsp
 have hpl := hsp.2.1
 clear hr3 hg3 R2 hat hsp
 have B4 : Hid (Below w3.heap.size w3 (w3.alloc (.cells #[.slice a1 ks.length c1, .slice a2 ps.length c2, .slice a3 es.length c3] 29))) := (Below.refl _ _).alloc (Nat.le_refl _) _
 have Y4 : Hid ((w3.alloc (.cells #[.slice a1 ks.length c1, .slice a2 ps.length c2, .slice a3 es.length c3] 29)).heap[w3.heap.size]? = some (.cells #[.slice a1 ks.length c1, .slice a2 ps.length c2, .slice a3 es.length c3] 29 (0, 0))) := heap_newD w3 _
 have D4 := toHid (D3.out.call B4.out)
 have hw3 : w.heap.size + 1 < w3.heap.size := lt_blk D3.out.r1
 have hRB : w3.heap.size ≠ R := by have := D3.out.rd.lt; omega
 by_cases hp0 : ps.length = 0
 ·have hpe : (((ps.length : Nat) : Int) == 0) = true := by simp [hp0]
  clear hp0
  have hR0 := D4.out.r0
  have hR1 : ((w3.alloc (.cells #[.slice a1 ks.length c1, .slice a2 ps.length c2, .slice a3 es.length c3] 29)).setRow w.heap.size #[.slice a1 ks.length c1, .slice a2 ps.length c2, .slice a3 es.length c3]).heap[w.heap.size + 1]? = some (.cells #[.string ⟨#[]⟩, .int .i64 0, .int .i64 0, .string ⟨#[]⟩] 31 (0, 0)) := (setRow_other _ _ _ _ (by omega)).trans D4.out.r1
  have HFI : Hid (BookAt (((w3.alloc (.cells #[.slice a1 ks.length c1, .slice a2 ps.length c2, .slice a3 es.length c3] 29)).setRow w.heap.size #[.slice a1 ks.length c1, .slice a2 ps.length c2, .slice a3 es.length c3]).setRow (w.heap.size + 1) #[.string ⟨#[]⟩, .int .i64 0, .int .i64 0, .string ⟨#[]⟩]) (.slice a1 ks.length c1) (.slice a2 ps.length c2) (.slice a3 es.length c3) ks ps es ∧ Below w.heap.size w (((w3.alloc (.cells #[.slice a1 ks.length c1, .slice a2 ps.length c2, .slice a3 es.length c3] 29)).setRow w.heap.size #[.slice a1 ks.length c1, .slice a2 ps.length c2, .slice a3 es.length c3]).setRow (w.heap.size + 1) #[.string ⟨#[]⟩, .int .i64 0, .int .i64 0, .string ⟨#[]⟩])) := by
   have hg0 : (w3.alloc (.cells #[.slice a1 ks.length c1, .slice a2 ps.length c2, .slice a3 es.length c3] 29)).grownBy ((w3.alloc (.cells #[.slice a1 ks.length c1, .slice a2 ps.length c2, .slice a3 es.length c3] 29)).setRow w.heap.size #[.slice a1 ks.length c1, .slice a2 ps.length c2, .slice a3 es.length c3]) (some w.heap.size) := ⟨rfl, rfl, rfl, by simp, fun j _ hj => setRow_other _ _ _ _ (fun e => hj (by rw [e]))⟩
   have hg1 : ((w3.alloc (.cells #[.slice a1 ks.length c1, .slice a2 ps.length c2, .slice a3 es.length c3] 29)).setRow w.heap.size #[.slice a1 ks.length c1, .slice a2 ps.length c2, .slice a3 es.length c3]).grownBy (((w3.alloc (.cells #[.slice a1 ks.length c1, .slice a2 ps.length c2, .slice a3 es.length c3] 29)).setRow w.heap.size #[.slice a1 ks.length c1, .slice a2 ps.length c2, .slice a3 es.length c3]).setRow (w.heap.size + 1) #[.string ⟨#[]⟩, .int .i64 0, .int .i64 0, .string ⟨#[]⟩]) (some (w.heap.size + 1)) := ⟨rfl, rfl, rfl, by simp, fun j _ hj => setRow_other _ _ _ _ (fun e => hj (by rw [e]))⟩
   exact ⟨D4.out.bk _ (fun b h1 _ => (setRow_other _ _ _ _ (by omega)).trans (setRow_other _ _ _ _ (by omega))), below_grown (below_grown D4.out.bl hg0 (Nat.le_refl _)) hg1 (by omega)⟩
  have k0 := setRow_heap _ _ _ #[.slice a1 ks.length c1, .slice a2 ps.length c2, .slice a3 es.length c3] _ _ hR0
  have k1 := setRow_heap _ _ _ #[.string ⟨#[]⟩, .int .i64 0, .int .i64 0, .string ⟨#[]⟩] _ _ hR1
  have k2 := (setRow_other ((w3.alloc (.cells #[.slice a1 ks.length c1, .slice a2 ps.length c2, .slice a3 es.length c3] 29)).setRow w.heap.size #[.slice a1 ks.length c1, .slice a2 ps.length c2, .slice a3 es.length c3]) (w.heap.size + 1) w.heap.size #[.string ⟨#[]⟩, .int .i64 0, .int .i64 0, .string ⟨#[]⟩] (by omega)).trans k0
  have h00 := cell_blkD k2 (i := 0) rfl
  have h01 := cell_blkD k2 (i := 1) rfl
  have h02 := cell_blkD k2 (i := 2) rfl
  have h10 := cell_blkD k1 (i := 0) rfl
  have h11 := cell_blkD k1 (i := 1) rfl
  have h12 := cell_blkD k1 (i := 2) rfl
  have h13 := cell_blkD k1 (i := 3) rfl
  have HH := toHid (And.intro h00 (And.intro h01 (And.intro h02 (And.intro h10 (And.intro h11 (And.intro h12 h13))))))
  clear k0 k1 k2 h00 h01 h02 h10 h11 h12 h13
  go_wp2_with (first | (refine wpList_store_row rfl 29 _ _ rfl w.heap.size #[.slice a1 ks.length c1, .slice a2 ps.length c2, .slice a3 es.length c3] rfl rfl 29 _ hR0 (by kernel_rfl) rfl (by simp [Value.oneCell']) ?_) | (refine wpList_store_row rfl 31 _ _ rfl (w.heap.size + 1) #[.string ⟨#[]⟩, .int .i64 0, .int .i64 0, .string ⟨#[]⟩] rfl rfl 31 _ hR1 (by kernel_rfl) rfl (by simp [Value.oneCell']) ?_))
  obtain ⟨h00, h01, h02, h10, h11, h12, h13⟩ := HH.out
  exact bodyPost_ret (v := .tuple #[.agg #[.slice a1 ks.length c1, .slice a2 ps.length c2, .slice a3 es.length c3], .agg #[.string ⟨#[]⟩, .int .i64 0, .int .i64 0, .string ⟨#[]⟩]]) (by simp [results, Tryz.results5, go_sem, h00, h01, h02, h10, h11, h12, h13]) rfl ⟨_, _, _, ks, ps, es, ⟨⟨#[]⟩, 0, 0, ⟨#[]⟩⟩, rfl, HFI.out.1, SP.out, Nat.zero_le _, Nat.zero_le _, HFI.out.2⟩
 have hpe : (((ps.length : Nat) : Int) == 0) = false := by rw [beq_eq_false_iff_ne]; omega
 go_wp2_with fail
 generalize (w3.alloc (.cells #[.slice a1 ks.length c1, .slice a2 ps.length c2, .slice a3 es.length c3] 29)) = w4 at *
 generalize w3.heap.size = B at *
 clear B4 D3
 refine (l2Change_any R q3 _ _ ps _ D4.out.rd (by omega) D4.out.bk.at.p ⟨by omega, by omega⟩ SP.out.2.2).mono ?_
 rintro e w5 ⟨f, wh, num, s, rfl, hf, hs, -, -, q5, hq2, hq3, hr5, hg5⟩
 have D5 := toHid (D4.out.grow hRw hRb hr5 hg5)
 have Y5 := toHid (box_keep hg5 hRB Y4.out)
 clear hr5 hg5 D4 Y4
 have B6 : Hid (Below w5.heap.size w5 (w5.alloc (.cells #[.string f, .int .i64 wh, .int .i64 num, .string s] 31))) := (Below.refl _ _).alloc (Nat.le_refl _) _
 have Z6 : Hid ((w5.alloc (.cells #[.string f, .int .i64 wh, .int .i64 num, .string s] 31)).heap[w5.heap.size]? = some (.cells #[.string f, .int .i64 wh, .int .i64 num, .string s] 31 (0, 0))) := heap_newD w5 _
 have D6 := toHid (D5.out.call B6.out)
 have Y6 := toHid ((B6.out.block _ (lt_blk Y5.out)).trans Y5.out)
 have hw5 : w.heap.size + 1 < w5.heap.size := lt_blk D5.out.r1
 have hCB : B ≠ w5.heap.size := by have := lt_blk Y5.out; omega
 have hRC : R < w5.heap.size := D5.out.rd.lt
 have HA5 : Hid (∀ w' : World, (∀ b, bs ≤ b → b < w5.heap.size → w'.heap[b]? = w5.heap[b]?) → BookAt w' (.slice a1 ks.length c1) (.slice a2 ps.length c2) (.slice a3 es.length c3) ks ps es) := D5.out.bk
 have AG6 : Hid (∀ b, bs ≤ b → b < w5.heap.size → (w5.alloc (.cells #[.string f, .int .i64 wh, .int .i64 num, .string s] 31)).heap[b]? = w5.heap[b]?) := fun b _ h2 => B6.out.block b h2
 go_wp2_with fail
 generalize (w5.alloc (.cells #[.string f, .int .i64 wh, .int .i64 num, .string s] 31)) = w6 at *
 generalize w5.heap.size = C at *
 clear B6 D5 Y5
 refine (pick_any R q5 6 _ D6.out.rd (by omega) (by omega)).mono ?_
 rintro e w7 ⟨x, rfl, hx0, hx1, -, hr7, hg7⟩
 have D7 := toHid (D6.out.grow hRw hRb hr7 hg7)
 have Y7 := toHid (box_keep hg7 hRB Y6.out)
 have Z7 := toHid (box_keep hg7 (by omega) Z6.out)
 have AG7 : Hid (∀ b, bs ≤ b → b < C → w7.heap[b]? = w5.heap[b]?) := fun b h1 h2 => (hg7.block b (by have := lt_blk Z6.out; omega) (fun e => by injection e; omega)).trans (AG6.out b h1 h2)
 clear hr7 hg7 hx0 hx1 D6 Y6 Z6 AG6
 by_cases hx : x = 0
 ·have hxb : (x == 0) = true := by simp [hx]
  clear hx
  have hd0 := cell_blkD Z7.out (i := 0) rfl
  have hd1 := cell_blkD Z7.out (i := 1) rfl
  have hd2 := cell_blkD Z7.out (i := 2) rfl
  have hd3 := cell_blkD Z7.out (i := 3) rfl
  go_wp2_with fail
  clear hd0 hd1 hd2 hd3
  refine (l2SpoilChange_any R _ f wh num s _ D7.out.rd (by omega) (by omega) hs).mono ?_
  rintro e w8 ⟨f', wh', num', s', rfl, hf', hs', q8, hq4, hq5, hr8, hg8⟩
  have D8 := toHid (D7.out.grow hRw hRb hr8 hg8)
  have Y8 := toHid (box_keep hg8 hRB Y7.out)
  have hz8 := box_keep hg8 (by omega) Z7.out
  have hgc : w8.grownBy (w8.setRow C #[.string f', .int .i64 wh', .int .i64 num', .string s']) (some C) := ⟨rfl, rfl, rfl, by simp, fun j _ hj => setRow_other _ _ _ _ (fun e => hj (by rw [e]))⟩
  have HP : Hid (Below w.heap.size w (w8.setRow C #[.string f', .int .i64 wh', .int .i64 num', .string s']) ∧ (w8.setRow C #[.string f', .int .i64 wh', .int .i64 num', .string s']).heap[w.heap.size]? = some (.cells #[.slice none 0 0, .slice none 0 0, .slice none 0 0] 29 (0, 0)) ∧ (w8.setRow C #[.string f', .int .i64 wh', .int .i64 num', .string s']).heap[w.heap.size + 1]? = some (.cells #[.string ⟨#[]⟩, .int .i64 0, .int .i64 0, .string ⟨#[]⟩] 31 (0, 0)) ∧ (w8.setRow C #[.string f', .int .i64 wh', .int .i64 num', .string s']).heap[B]? = some (.cells #[.slice a1 ks.length c1, .slice a2 ps.length c2, .slice a3 es.length c3] 29 (0, 0)) ∧ (w8.setRow C #[.string f', .int .i64 wh', .int .i64 num', .string s']).heap[C]? = some (.cells #[.string f', .int .i64 wh', .int .i64 num', .string s'] 31 (0, 0)) ∧ ∀ b, bs ≤ b → b < C → (w8.setRow C #[.string f', .int .i64 wh', .int .i64 num', .string s']).heap[b]? = w5.heap[b]?) :=
   ⟨below_grown D8.out.bl hgc (by omega), (setRow_other _ _ _ _ (by omega)).trans D8.out.r0, (setRow_other _ _ _ _ (by omega)).trans D8.out.r1, (setRow_other _ _ _ _ hCB).trans Y8.out, setRow_heap _ _ _ _ _ _ hz8, fun b h1 h2 => (setRow_other _ _ _ _ (by omega)).trans ((hg8.block b (by have := lt_blk Z7.out; omega) (fun e => by injection e; omega)).trans (AG7.out b h1 h2))⟩
  clear hr8 hg8 D7 Y7 Z7 D8 Y8 hgc AG7
  go_wp2_with (refine wpList_store_row rfl 31 _ _ rfl C #[.string f', .int .i64 wh', .int .i64 num', .string s'] rfl rfl 31 _ hz8 (by kernel_rfl) rfl (by simp [Value.oneCell']) ?_)
  clear hz8
  generalize (w8.setRow C #[.string f', .int .i64 wh', .int .i64 num', .string s']) = w9 at *
  go_simp
  refine wp_region_noPanic ?_
  refine wp_region_held_drew (S := fun z => (z.cell? ⟨B, 0, none⟩ = some (.slice a1 ks.length c1) ∧ z.cell? ⟨B, 1, none⟩ = some (.slice a2 ps.length c2) ∧ z.cell? ⟨B, 2, none⟩ = some (.slice a3 es.length c3)) ∧ z.cell? ⟨C, 0, none⟩ = some (.string f') ∧ z.cell? ⟨C, 1, none⟩ = some (.int .i64 wh') ∧ z.cell? ⟨C, 2, none⟩ = some (.int .i64 num') ∧ z.cell? ⟨C, 3, none⟩ = some (.string s')) (by kernel_rfl) ?_ (fun hHeld => ?_)
  ·exact held7 HP.out.2.2.2.1 HP.out.2.2.2.2.1
  have HQ : Hid (Below w.heap.size w w9.drew ∧ w9.drew.heap[w.heap.size]? = some (.cells #[.slice none 0 0, .slice none 0 0, .slice none 0 0] 29 (0, 0)) ∧ w9.drew.heap[w.heap.size + 1]? = some (.cells #[.string ⟨#[]⟩, .int .i64 0, .int .i64 0, .string ⟨#[]⟩] 31 (0, 0)) ∧ w9.drew.heap[B]? = some (.cells #[.slice a1 ks.length c1, .slice a2 ps.length c2, .slice a3 es.length c3] 29 (0, 0)) ∧ w9.drew.heap[C]? = some (.cells #[.string f', .int .i64 wh', .int .i64 num', .string s'] 31 (0, 0)) ∧ ∀ b, bs ≤ b → b < C → w9.drew.heap[b]? = w5.heap[b]?) := ⟨HP.out.1.drew, HP.out.2⟩
  generalize w9.drew = W0 at *
  clear HP
  refine tkH 0 ?_ rfl ?_ ?_; rotate_left
  ·intro w hSw; (try dsimp only at hSw); go_simp; try with_reducible rfl
  simp only [Act.put, tkS]
  refine tkH 1 ?_ rfl ?_ ?_; rotate_left
  ·intro w hSw; (try dsimp only at hSw); go_simp; try with_reducible rfl
  simp only [Act.put, tkS]
  clear hHeld
  have hg0 : W0.grownBy (W0.setRow w.heap.size #[.slice a1 ks.length c1, .slice a2 ps.length c2, .slice a3 es.length c3]) (some w.heap.size) := ⟨rfl, rfl, rfl, by simp, fun j _ hj => setRow_other _ _ _ _ (fun e => hj (by rw [e]))⟩
  have r00 := HQ.out.2.1
  have HQ1 : Hid (Below w.heap.size w (W0.setRow w.heap.size #[.slice a1 ks.length c1, .slice a2 ps.length c2, .slice a3 es.length c3]) ∧ (W0.setRow w.heap.size #[.slice a1 ks.length c1, .slice a2 ps.length c2, .slice a3 es.length c3]).heap[w.heap.size]? = some (.cells #[.slice a1 ks.length c1, .slice a2 ps.length c2, .slice a3 es.length c3] 29 (0, 0)) ∧ (W0.setRow w.heap.size #[.slice a1 ks.length c1, .slice a2 ps.length c2, .slice a3 es.length c3]).heap[w.heap.size + 1]? = some (.cells #[.string ⟨#[]⟩, .int .i64 0, .int .i64 0, .string ⟨#[]⟩] 31 (0, 0)) ∧ (W0.setRow w.heap.size #[.slice a1 ks.length c1, .slice a2 ps.length c2, .slice a3 es.length c3]).heap[B]? = some (.cells #[.slice a1 ks.length c1, .slice a2 ps.length c2, .slice a3 es.length c3] 29 (0, 0)) ∧ (W0.setRow w.heap.size #[.slice a1 ks.length c1, .slice a2 ps.length c2, .slice a3 es.length c3]).heap[C]? = some (.cells #[.string f', .int .i64 wh', .int .i64 num', .string s'] 31 (0, 0)) ∧ ∀ b, bs ≤ b → b < C → (W0.setRow w.heap.size #[.slice a1 ks.length c1, .slice a2 ps.length c2, .slice a3 es.length c3]).heap[b]? = w5.heap[b]?) := ⟨below_grown HQ.out.1 hg0 (Nat.le_refl _), setRow_heap _ _ _ _ _ _ HQ.out.2.1, (setRow_other _ _ _ _ (by omega)).trans HQ.out.2.2.1, (setRow_other _ _ _ _ (by omega)).trans HQ.out.2.2.2.1, (setRow_other _ _ _ _ (by omega)).trans HQ.out.2.2.2.2.1, fun b h1 h2 => (setRow_other _ _ _ _ (by omega)).trans (HQ.out.2.2.2.2.2 b h1 h2)⟩
  refine rdH 2 rfl (fun K hK => ?_)
  refine step_store_rowC rfl 29 _ _ rfl w.heap.size #[.slice a1 ks.length c1, .slice a2 ps.length c2, .slice a3 es.length c3] rfl rfl 29 _ r00 (by kernel_rfl) rfl (by simp [Value.oneCell']) ?_
  refine hK.out _ _ (held7 HQ1.out.2.2.2.1 HQ1.out.2.2.2.2.1) (fun _ => ?_)
  clear hK K hg0 r00 HQ
  generalize (W0.setRow w.heap.size #[.slice a1 ks.length c1, .slice a2 ps.length c2, .slice a3 es.length c3]) = W1 at *
  have hg0 : W1.grownBy (W1.setRow (w.heap.size + 1) #[.string f', .int .i64 wh', .int .i64 num', .string s']) (some (w.heap.size + 1)) := ⟨rfl, rfl, rfl, by simp, fun j _ hj => setRow_other _ _ _ _ (fun e => hj (by rw [e]))⟩
  have r10 := HQ1.out.2.2.1
  have HQ2 : Hid (Below w.heap.size w (W1.setRow (w.heap.size + 1) #[.string f', .int .i64 wh', .int .i64 num', .string s']) ∧ (W1.setRow (w.heap.size + 1) #[.string f', .int .i64 wh', .int .i64 num', .string s']).heap[w.heap.size]? = some (.cells #[.slice a1 ks.length c1, .slice a2 ps.length c2, .slice a3 es.length c3] 29 (0, 0)) ∧ (W1.setRow (w.heap.size + 1) #[.string f', .int .i64 wh', .int .i64 num', .string s']).heap[w.heap.size + 1]? = some (.cells #[.string f', .int .i64 wh', .int .i64 num', .string s'] 31 (0, 0)) ∧ (W1.setRow (w.heap.size + 1) #[.string f', .int .i64 wh', .int .i64 num', .string s']).heap[B]? = some (.cells #[.slice a1 ks.length c1, .slice a2 ps.length c2, .slice a3 es.length c3] 29 (0, 0)) ∧ (W1.setRow (w.heap.size + 1) #[.string f', .int .i64 wh', .int .i64 num', .string s']).heap[C]? = some (.cells #[.string f', .int .i64 wh', .int .i64 num', .string s'] 31 (0, 0)) ∧ ∀ b, bs ≤ b → b < C → (W1.setRow (w.heap.size + 1) #[.string f', .int .i64 wh', .int .i64 num', .string s']).heap[b]? = w5.heap[b]?) := ⟨below_grown HQ1.out.1 hg0 (by omega), (setRow_other _ _ _ _ (by omega)).trans HQ1.out.2.1, setRow_heap _ _ _ _ _ _ HQ1.out.2.2.1, (setRow_other _ _ _ _ (by omega)).trans HQ1.out.2.2.2.1, (setRow_other _ _ _ _ (by omega)).trans HQ1.out.2.2.2.2.1, fun b h1 h2 => (setRow_other _ _ _ _ (by omega)).trans (HQ1.out.2.2.2.2.2 b h1 h2)⟩
  refine rdH 3 rfl (fun K hK => ?_)
  refine step_store_rowC rfl 31 _ _ rfl (w.heap.size + 1) #[.string f', .int .i64 wh', .int .i64 num', .string s'] rfl rfl 31 _ r10 (by kernel_rfl) rfl (by simp [Value.oneCell']) ?_
  refine hK.out _ _ (held7 HQ2.out.2.2.2.1 HQ2.out.2.2.2.2.1) (fun _ => ?_)
  clear hK K hg0 r10 HQ1
  generalize (W1.setRow (w.heap.size + 1) #[.string f', .int .i64 wh', .int .i64 num', .string s']) = W2 at *
  refine wpAnyH_done (by kernel_rfl) ?_ _
  refine NoPanic.normal ?_
  have h00 := cell_blkD HQ2.out.2.1 (i := 0) rfl
  have h01 := cell_blkD HQ2.out.2.1 (i := 1) rfl
  have h02 := cell_blkD HQ2.out.2.1 (i := 2) rfl
  have h10 := cell_blkD HQ2.out.2.2.1 (i := 0) rfl
  have h11 := cell_blkD HQ2.out.2.2.1 (i := 1) rfl
  have h12 := cell_blkD HQ2.out.2.2.1 (i := 2) rfl
  have h13 := cell_blkD HQ2.out.2.2.1 (i := 3) rfl
  go_wp2_with fail
  exact bodyPost_ret (v := .tuple #[.agg #[.slice a1 ks.length c1, .slice a2 ps.length c2, .slice a3 es.length c3], .agg #[.string f', .int .i64 wh', .int .i64 num', .string s']]) (by simp [results, Tryz.results5, go_sem, h00, h01, h02, h10, h11, h12, h13]) rfl ⟨_, _, _, ks, ps, es, ⟨f', wh', num', s'⟩, rfl, HA5.out _ HQ2.out.2.2.2.2.2, SP.out, (by show f'.size ≤ 2000; omega), (by show s'.size ≤ 2000; omega), HQ2.out.1⟩
 ·have hxb : (x == 0) = false := by simp [hx]
  clear hx
  have HP : Hid (Below w.heap.size w w7 ∧ w7.heap[w.heap.size]? = some (.cells #[.slice none 0 0, .slice none 0 0, .slice none 0 0] 29 (0, 0)) ∧ w7.heap[w.heap.size + 1]? = some (.cells #[.string ⟨#[]⟩, .int .i64 0, .int .i64 0, .string ⟨#[]⟩] 31 (0, 0)) ∧ w7.heap[B]? = some (.cells #[.slice a1 ks.length c1, .slice a2 ps.length c2, .slice a3 es.length c3] 29 (0, 0)) ∧ w7.heap[C]? = some (.cells #[.string f, .int .i64 wh, .int .i64 num, .string s] 31 (0, 0)) ∧ ∀ b, bs ≤ b → b < C → w7.heap[b]? = w5.heap[b]?) := ⟨D7.out.bl, D7.out.r0, D7.out.r1, Y7.out, Z7.out, AG7.out⟩
  clear D7 Y7 Z7 AG7
  go_wp2_with fail
  refine wp_region_noPanic ?_
  refine wp_region_held_drew (S := fun z => (z.cell? ⟨B, 0, none⟩ = some (.slice a1 ks.length c1) ∧ z.cell? ⟨B, 1, none⟩ = some (.slice a2 ps.length c2) ∧ z.cell? ⟨B, 2, none⟩ = some (.slice a3 es.length c3)) ∧ z.cell? ⟨C, 0, none⟩ = some (.string f) ∧ z.cell? ⟨C, 1, none⟩ = some (.int .i64 wh) ∧ z.cell? ⟨C, 2, none⟩ = some (.int .i64 num) ∧ z.cell? ⟨C, 3, none⟩ = some (.string s)) (by kernel_rfl) ?_ (fun hHeld => ?_)
  ·exact held7 HP.out.2.2.2.1 HP.out.2.2.2.2.1
  have HQ : Hid (Below w.heap.size w w7.drew ∧ w7.drew.heap[w.heap.size]? = some (.cells #[.slice none 0 0, .slice none 0 0, .slice none 0 0] 29 (0, 0)) ∧ w7.drew.heap[w.heap.size + 1]? = some (.cells #[.string ⟨#[]⟩, .int .i64 0, .int .i64 0, .string ⟨#[]⟩] 31 (0, 0)) ∧ w7.drew.heap[B]? = some (.cells #[.slice a1 ks.length c1, .slice a2 ps.length c2, .slice a3 es.length c3] 29 (0, 0)) ∧ w7.drew.heap[C]? = some (.cells #[.string f, .int .i64 wh, .int .i64 num, .string s] 31 (0, 0)) ∧ ∀ b, bs ≤ b → b < C → w7.drew.heap[b]? = w5.heap[b]?) := ⟨HP.out.1.drew, HP.out.2⟩
  generalize w7.drew = W0 at *
  clear HP
  refine tkH 0 ?_ rfl ?_ ?_; rotate_left
  ·intro w hSw; (try dsimp only at hSw); go_simp; try with_reducible rfl
  simp only [Act.put, tkS]
  refine tkH 1 ?_ rfl ?_ ?_; rotate_left
  ·intro w hSw; (try dsimp only at hSw); go_simp; try with_reducible rfl
  simp only [Act.put, tkS]
  clear hHeld
  have hg0 : W0.grownBy (W0.setRow w.heap.size #[.slice a1 ks.length c1, .slice a2 ps.length c2, .slice a3 es.length c3]) (some w.heap.size) := ⟨rfl, rfl, rfl, by simp, fun j _ hj => setRow_other _ _ _ _ (fun e => hj (by rw [e]))⟩
  have r00 := HQ.out.2.1
  have HQ1 : Hid (Below w.heap.size w (W0.setRow w.heap.size #[.slice a1 ks.length c1, .slice a2 ps.length c2, .slice a3 es.length c3]) ∧ (W0.setRow w.heap.size #[.slice a1 ks.length c1, .slice a2 ps.length c2, .slice a3 es.length c3]).heap[w.heap.size]? = some (.cells #[.slice a1 ks.length c1, .slice a2 ps.length c2, .slice a3 es.length c3] 29 (0, 0)) ∧ (W0.setRow w.heap.size #[.slice a1 ks.length c1, .slice a2 ps.length c2, .slice a3 es.length c3]).heap[w.heap.size + 1]? = some (.cells #[.string ⟨#[]⟩, .int .i64 0, .int .i64 0, .string ⟨#[]⟩] 31 (0, 0)) ∧ (W0.setRow w.heap.size #[.slice a1 ks.length c1, .slice a2 ps.length c2, .slice a3 es.length c3]).heap[B]? = some (.cells #[.slice a1 ks.length c1, .slice a2 ps.length c2, .slice a3 es.length c3] 29 (0, 0)) ∧ (W0.setRow w.heap.size #[.slice a1 ks.length c1, .slice a2 ps.length c2, .slice a3 es.length c3]).heap[C]? = some (.cells #[.string f, .int .i64 wh, .int .i64 num, .string s] 31 (0, 0)) ∧ ∀ b, bs ≤ b → b < C → (W0.setRow w.heap.size #[.slice a1 ks.length c1, .slice a2 ps.length c2, .slice a3 es.length c3]).heap[b]? = w5.heap[b]?) := ⟨below_grown HQ.out.1 hg0 (Nat.le_refl _), setRow_heap _ _ _ _ _ _ HQ.out.2.1, (setRow_other _ _ _ _ (by omega)).trans HQ.out.2.2.1, (setRow_other _ _ _ _ (by omega)).trans HQ.out.2.2.2.1, (setRow_other _ _ _ _ (by omega)).trans HQ.out.2.2.2.2.1, fun b h1 h2 => (setRow_other _ _ _ _ (by omega)).trans (HQ.out.2.2.2.2.2 b h1 h2)⟩
  refine rdH 2 rfl (fun K hK => ?_)
  refine step_store_rowC rfl 29 _ _ rfl w.heap.size #[.slice a1 ks.length c1, .slice a2 ps.length c2, .slice a3 es.length c3] rfl rfl 29 _ r00 (by kernel_rfl) rfl (by simp [Value.oneCell']) ?_
  refine hK.out _ _ (held7 HQ1.out.2.2.2.1 HQ1.out.2.2.2.2.1) (fun _ => ?_)
  clear hK K hg0 r00 HQ
  generalize (W0.setRow w.heap.size #[.slice a1 ks.length c1, .slice a2 ps.length c2, .slice a3 es.length c3]) = W1 at *
  have hg0 : W1.grownBy (W1.setRow (w.heap.size + 1) #[.string f, .int .i64 wh, .int .i64 num, .string s]) (some (w.heap.size + 1)) := ⟨rfl, rfl, rfl, by simp, fun j _ hj => setRow_other _ _ _ _ (fun e => hj (by rw [e]))⟩
  have r10 := HQ1.out.2.2.1
  have HQ2 : Hid (Below w.heap.size w (W1.setRow (w.heap.size + 1) #[.string f, .int .i64 wh, .int .i64 num, .string s]) ∧ (W1.setRow (w.heap.size + 1) #[.string f, .int .i64 wh, .int .i64 num, .string s]).heap[w.heap.size]? = some (.cells #[.slice a1 ks.length c1, .slice a2 ps.length c2, .slice a3 es.length c3] 29 (0, 0)) ∧ (W1.setRow (w.heap.size + 1) #[.string f, .int .i64 wh, .int .i64 num, .string s]).heap[w.heap.size + 1]? = some (.cells #[.string f, .int .i64 wh, .int .i64 num, .string s] 31 (0, 0)) ∧ (W1.setRow (w.heap.size + 1) #[.string f, .int .i64 wh, .int .i64 num, .string s]).heap[B]? = some (.cells #[.slice a1 ks.length c1, .slice a2 ps.length c2, .slice a3 es.length c3] 29 (0, 0)) ∧ (W1.setRow (w.heap.size + 1) #[.string f, .int .i64 wh, .int .i64 num, .string s]).heap[C]? = some (.cells #[.string f, .int .i64 wh, .int .i64 num, .string s] 31 (0, 0)) ∧ ∀ b, bs ≤ b → b < C → (W1.setRow (w.heap.size + 1) #[.string f, .int .i64 wh, .int .i64 num, .string s]).heap[b]? = w5.heap[b]?) := ⟨below_grown HQ1.out.1 hg0 (by omega), (setRow_other _ _ _ _ (by omega)).trans HQ1.out.2.1, setRow_heap _ _ _ _ _ _ HQ1.out.2.2.1, (setRow_other _ _ _ _ (by omega)).trans HQ1.out.2.2.2.1, (setRow_other _ _ _ _ (by omega)).trans HQ1.out.2.2.2.2.1, fun b h1 h2 => (setRow_other _ _ _ _ (by omega)).trans (HQ1.out.2.2.2.2.2 b h1 h2)⟩
  refine rdH 3 rfl (fun K hK => ?_)
  refine step_store_rowC rfl 31 _ _ rfl (w.heap.size + 1) #[.string f, .int .i64 wh, .int .i64 num, .string s] rfl rfl 31 _ r10 (by kernel_rfl) rfl (by simp [Value.oneCell']) ?_
  refine hK.out _ _ (held7 HQ2.out.2.2.2.1 HQ2.out.2.2.2.2.1) (fun _ => ?_)
  clear hK K hg0 r10 HQ1
  generalize (W1.setRow (w.heap.size + 1) #[.string f, .int .i64 wh, .int .i64 num, .string s]) = W2 at *
  refine wpAnyH_done (by kernel_rfl) ?_ _
  refine NoPanic.normal ?_
  have h00 := cell_blkD HQ2.out.2.1 (i := 0) rfl
  have h01 := cell_blkD HQ2.out.2.1 (i := 1) rfl
  have h02 := cell_blkD HQ2.out.2.1 (i := 2) rfl
  have h10 := cell_blkD HQ2.out.2.2.1 (i := 0) rfl
  have h11 := cell_blkD HQ2.out.2.2.1 (i := 1) rfl
  have h12 := cell_blkD HQ2.out.2.2.1 (i := 2) rfl
  have h13 := cell_blkD HQ2.out.2.2.1 (i := 3) rfl
  go_wp2_with fail
  exact bodyPost_ret (v := .tuple #[.agg #[.slice a1 ks.length c1, .slice a2 ps.length c2, .slice a3 es.length c3], .agg #[.string f, .int .i64 wh, .int .i64 num, .string s]]) (by simp [results, Tryz.results5, go_sem, h00, h01, h02, h10, h11, h12, h13]) rfl ⟨_, _, _, ks, ps, es, ⟨f, wh, num, s⟩, rfl, HA5.out _ HQ2.out.2.2.2.2.2, SP.out, (by show f.size ≤ 2000; omega), (by show s.size ≤ 2000; omega), HQ2.out.1⟩
end Go.Proofs.YtibpkhmiahamcaaGreat.Dr
