/-
  Joined: Dr9, Dr10.
-/
import Derived.Test.YtibpkhmiahamcaaGreatDoorDr8
import Derived.Test.YtibpkhmiahamcaaGreatDoorDr7

/-
  Draws: DrawPlanChangeOk.
-/
namespace Go.Proofs.YtibpkhmiahamcaaGreatDoor.Dr
open Go.RowKit
set_option linter.unusedSimpArgs false
set_option linter.unusedVariables false

theorem names_le {l : List Tri} {m : Nat} (h : namesB l m = true) : l.length ≤ m ∧ ∀ t ∈ l, t.s.size ≤ 8 := by
  unfold namesB at h
  rw [Bool.and_eq_true] at h
  refine ⟨by have := of_decide_eq_true h.1; omega, fun t ht => ?_⟩
  obtain ⟨i, hi, e⟩ := List.getElem_of_mem ht
  have h2 := allB_get h.2 i hi
  rw [Bool.and_eq_true] at h2
  have h3 := h2.1
  rw [show at' l i = t by simp [at', hi, e]] at h3
  unfold nameB inB at h3
  simp at h3
  omega
theorem points_le {l : List Tri} (h : pointsB l = true) : l.length ≤ 16 ∧ ∀ t ∈ l, t.s.size ≤ 8 := by
  unfold pointsB at h
  rw [Bool.and_eq_true] at h
  exact names_le h.1
theorem kinds_le {l : List Tri} (h : kindsB l = true) : l.length ≤ 6 ∧ ∀ t ∈ l, t.s.size ≤ 8 := by
  unfold kindsB at h
  rw [Bool.and_eq_true] at h
  exact names_le h.1
theorem below_grown {w w1 w2 : World} {R : Nat} (h : Below w.heap.size w w1) (hg : w1.grownBy w2 (some R)) (hR : w.heap.size ≤ R) : Below w.heap.size w w2 :=
  ⟨hg.1.trans h.1, hg.2.trans h.2, hg.3.trans h.3, Nat.le_trans h.4 hg.4, fun j hj => (hg.5 j (Nat.lt_of_lt_of_le hj h.4) (fun e => by have := Option.some.inj e; omega)).trans (h.5 j hj)⟩
theorem held6 {z : World} {B C : Nat} {k p a b c d : Value} (hB : z.heap[B]? = some (.cells #[k, p] 26 (0, 0))) (hC : z.heap[C]? = some (.cells #[a, b, c, d] 28 (0, 0))) :
    z.cell? ⟨B, 0, none⟩ = some k ∧ z.cell? ⟨B, 1, none⟩ = some p ∧ z.cell? ⟨C, 0, none⟩ = some a ∧ z.cell? ⟨C, 1, none⟩ = some b ∧ z.cell? ⟨C, 2, none⟩ = some c ∧ z.cell? ⟨C, 3, none⟩ = some d :=
  ⟨cell_blkD hB rfl, cell_blkD hB rfl, cell_blkD hC rfl, cell_blkD hC rfl, cell_blkD hC rfl, cell_blkD hC rfl⟩
/-- Between the drawing's steps. -/
structure DC (w z : World) (R q bs : Nat) (kv pv : Value) (ks ps : List Tri) : Prop where
  rd : Rd z R q
  bl : Below w.heap.size w z
  r0 : z.heap[w.heap.size]? = some (.cells #[.slice none 0 0, .slice none 0 0] 26 (0, 0))
  r1 : z.heap[w.heap.size + 1]? = some (.cells #[.string ⟨#[]⟩, .int .i64 0, .int .i64 0, .string ⟨#[]⟩] 28 (0, 0))
  k : z.ownsRow bs 72 3 kv ks.length (triRows ks)
  p : z.ownsRow bs 75 3 pv ps.length (triRows ps)
theorem DC.call {w z z' : World} {R q bs : Nat} {kv pv : Value} {ks ps : List Tri} (h : DC w z R q bs kv pv ks ps) (hb : Below z.heap.size z z') : DC w z' R q bs kv pv ks ps :=
  ⟨h.rd.far hb, below_step h.bl hb, (hb.block _ (lt_blk h.r0)).trans h.r0, (hb.block _ (lt_blk h.r1)).trans h.r1, own_keepD h.k hb, own_keepD h.p hb⟩
theorem DC.grow {w z z' : World} {R q q' bs : Nat} {kv pv : Value} {ks ps : List Tri} (h : DC w z R q bs kv pv ks ps) (hR : w.heap.size + 1 < R) (hb : R < bs) (hr : Rd z' R q') (hg : z.grownBy z' (some R)) : DC w z' R q' bs kv pv ks ps :=
  ⟨hr, below_grown h.bl hg (by omega), box_keep hg (by omega) h.r0, box_keep hg (by omega) h.r1, own_box h.k hg hb, own_box h.p hg hb⟩
/-- A row of its own of another type is turned: the rest stays. -/
theorem DC.row {w z : World} {R q bs C : Nat} {kv pv : Value} {ks ps : List Tri} {old : Array Value} (h : DC w z R q bs kv pv ks ps) (hC : z.heap[C]? = some (.cells old 28 (0, 0))) (hw : w.heap.size + 1 < C) (hR : R < C) (cs : Array Value) : DC w (z.setRow C cs) R q bs kv pv ks ps := by
  have hg : z.grownBy (z.setRow C cs) (some C) := ⟨rfl, rfl, rfl, by simp, fun j _ hj => setRow_other _ _ _ _ (fun e => hj (by rw [e]))⟩
  have hbl : Below w.heap.size w (z.setRow C cs) := below_grown h.bl hg (by omega)
  refine ⟨?_, hbl, (setRow_other _ _ _ _ (by omega)).trans h.r0, (setRow_other _ _ _ _ (by omega)).trans h.r1, own_farD h.k hg (fun q hq e => own_typeD h.k hC (by decide) (by rw [hq, ← e])), own_farD h.p hg (fun q hq e => own_typeD h.p hC (by decide) (by rw [hq, ← e]))⟩
  exact h.rd.late (fun j hj => setRow_other _ _ _ _ (by omega))

set_option maxRecDepth 100000 in
set_option maxHeartbeats 3200000 in
theorem drawChangeOk_any (v : Value) (n : Nat) (w : World) (h : BysArg w v n) :
    Calls Tryz.prog 4 #[v] w fun e w' => ∃ (kv pv : Value) (ks ps : List Tri) (c : Chg), e = .returned (.tuple #[.agg #[kv, pv], .agg #[.string c.f, .int .i64 c.what, .int .i64 c.num, .string c.v]]) ∧ TrisAt w' kv ks ∧ TrisAt w' pv ps ∧ kindsB ks = true ∧ pointsB ps = true ∧ c.f.size ≤ 2000 ∧ c.v.size ≤ 2000 ∧ Below w.heap.size w w' := by
  have HA := toHid h
  obtain ⟨a, cap, rfl, -⟩ := h
  have HB : Hid (Below w.heap.size w ((w.alloc (.cells #[.slice none 0 0, .slice none 0 0] 26)).alloc (.cells #[.string ⟨#[]⟩, .int .i64 0, .int .i64 0, .string ⟨#[]⟩] 28))) := ((Below.refl _ _).alloc (Nat.le_refl _) _).alloc (by simp) _
  have HX0 : Hid (((w.alloc (.cells #[.slice none 0 0, .slice none 0 0] 26)).alloc (.cells #[.string ⟨#[]⟩, .int .i64 0, .int .i64 0, .string ⟨#[]⟩] 28)).heap[w.heap.size]? = some (.cells #[.slice none 0 0, .slice none 0 0] 26 (0, 0))) := by
    show _ = _
    rw [(((Below.refl _ _).alloc (Nat.le_refl _) _ : Below (w.alloc (.cells #[.slice none 0 0, .slice none 0 0] 26)).heap.size (w.alloc (.cells #[.slice none 0 0, .slice none 0 0] 26)) ((w.alloc (.cells #[.slice none 0 0, .slice none 0 0] 26)).alloc (.cells #[.string ⟨#[]⟩, .int .i64 0, .int .i64 0, .string ⟨#[]⟩] 28)))).block _ (by simp)]
    exact heap_newD w _
  have HX1 : Hid (((w.alloc (.cells #[.slice none 0 0, .slice none 0 0] 26)).alloc (.cells #[.string ⟨#[]⟩, .int .i64 0, .int .i64 0, .string ⟨#[]⟩] 28)).heap[w.heap.size + 1]? = some (.cells #[.string ⟨#[]⟩, .int .i64 0, .int .i64 0, .string ⟨#[]⟩] 28 (0, 0))) := by
    have h := heap_newD (w.alloc (.cells #[.slice none 0 0, .slice none 0 0] 26)) (.cells #[.string ⟨#[]⟩, .int .i64 0, .int .i64 0, .string ⟨#[]⟩] 28)
    rw [show (w.alloc (.cells #[.slice none 0 0, .slice none 0 0] 26)).heap.size = w.heap.size + 1 by simp] at h
    exact h
  go_enter Tryz.func4, Tryz.ntmps4
  go_wp2_with fail
  generalize ((w.alloc (.cells #[.slice none 0 0, .slice none 0 0] 26)).alloc (.cells #[.string ⟨#[]⟩, .int .i64 0, .int .i64 0, .string ⟨#[]⟩] 28)) = w1 at *
  refine (l1Open_any _ n _ (HA.out.keep HB.out)).mono ?_
  rintro e w2 ⟨R, rfl, hR, hr2, hb2⟩
  have hRw : w.heap.size + 1 < R := by have := lt_blk HX1.out; omega
  have R2 : Hid (Rd w2 R 0 ∧ Below w.heap.size w w2 ∧ w2.heap[w.heap.size]? = some (.cells #[.slice none 0 0, .slice none 0 0] 26 (0, 0)) ∧ w2.heap[w.heap.size + 1]? = some (.cells #[.string ⟨#[]⟩, .int .i64 0, .int .i64 0, .string ⟨#[]⟩] 28 (0, 0))) :=
    ⟨hr2, below_step HB.out hb2, (hb2.block _ (lt_blk HX0.out)).trans HX0.out, (hb2.block _ (lt_blk HX1.out)).trans HX1.out⟩
  clear hr2 hb2 hR HX0 HX1 HB
  go_wp2_with fail
  refine (l1Base_any R 0 _ R2.out.1 (by omega)).mono ?_
  rintro e w3 ⟨kv, pv, ks, ps, rfl, htk, htp, hkb, hpb, hp1, q3, hq0, hq1, hr3, hg3⟩
  have D3 : Hid (DC w w3 R q3 (w2.heap.size + 1) kv pv ks ps) := ⟨hr3, below_grown R2.out.2.1 hg3 (by omega), box_keep hg3 (by omega) R2.out.2.2.1, box_keep hg3 (by omega) R2.out.2.2.2, htk, htp⟩
  have hRb : R < w2.heap.size + 1 := by have := R2.out.1.lt; omega
  generalize w2.heap.size + 1 = bs at *
  have HOK : Hid (kindsB ks = true ∧ pointsB ps = true) := ⟨hkb, hpb⟩
  obtain ⟨ka, kc, rfl⟩ := own_sliceD htk
  obtain ⟨pa, pc, rfl⟩ := own_sliceD htp
  clear hr3 hg3 R2 hkb hpb htk htp
  have B4 : Hid (Below w3.heap.size w3 (w3.alloc (.cells #[.slice ka ks.length kc, .slice pa ps.length pc] 26))) := (Below.refl _ _).alloc (Nat.le_refl _) _
  have Y4 : Hid ((w3.alloc (.cells #[.slice ka ks.length kc, .slice pa ps.length pc] 26)).heap[w3.heap.size]? = some (.cells #[.slice ka ks.length kc, .slice pa ps.length pc] 26 (0, 0))) := heap_newD w3 _
  have D4 := toHid (D3.out.call B4.out)
  have hw3 : w.heap.size + 1 < w3.heap.size := lt_blk D3.out.r1
  have hRB : w3.heap.size ≠ R := by have := D3.out.rd.lt; omega
  go_wp2_with fail
  generalize (w3.alloc (.cells #[.slice ka ks.length kc, .slice pa ps.length pc] 26)) = w4 at *
  generalize w3.heap.size = B at *
  clear B4 D3
  refine (l2Change_any R q3 _ _ ps _ D4.out.rd (by omega) (tris_own D4.out.p) ⟨hp1, by have := (points_le HOK.out.2).1; omega⟩ (fun t ht => by have := (points_le HOK.out.2).2 t ht; omega)).mono ?_
  rintro e w5 ⟨f, wh, num, s, rfl, hf, hs, -, -, q5, hq2, hq3, hr5, hg5⟩
  have D5 := toHid (D4.out.grow hRw hRb hr5 hg5)
  have Y5 := toHid (box_keep hg5 hRB Y4.out)
  clear hr5 hg5 D4 Y4
  have B6 : Hid (Below w5.heap.size w5 (w5.alloc (.cells #[.string f, .int .i64 wh, .int .i64 num, .string s] 28))) := (Below.refl _ _).alloc (Nat.le_refl _) _
  have Z6 : Hid ((w5.alloc (.cells #[.string f, .int .i64 wh, .int .i64 num, .string s] 28)).heap[w5.heap.size]? = some (.cells #[.string f, .int .i64 wh, .int .i64 num, .string s] 28 (0, 0))) := heap_newD w5 _
  have D6 := toHid (D5.out.call B6.out)
  have Y6 := toHid ((B6.out.block _ (lt_blk Y5.out)).trans Y5.out)
  have hw5 : w.heap.size + 1 < w5.heap.size := lt_blk D5.out.r1
  have hCB : B ≠ w5.heap.size := by have := lt_blk Y5.out; omega
  have hRC : R < w5.heap.size := D5.out.rd.lt
  go_wp2_with fail
  generalize (w5.alloc (.cells #[.string f, .int .i64 wh, .int .i64 num, .string s] 28)) = w6 at *
  generalize w5.heap.size = C at *
  clear B6 D5 Y5
  refine (pick_any R q5 2 _ D6.out.rd (by omega) (by omega)).mono ?_
  rintro e w7 ⟨x, rfl, hx0, hx1, -, hr7, hg7⟩
  have D7 := toHid (D6.out.grow hRw hRb hr7 hg7)
  have Y7 := toHid (box_keep hg7 hRB Y6.out)
  have Z7 := toHid (box_keep hg7 (by omega) Z6.out)
  clear hr7 hg7 hx0 hx1 D6 Y6 Z6
  by_cases hx : x = 0
  · have hxb : (x == 0) = true := by simp [hx]
    clear hx
    have hd0 := cell_blkD Z7.out (i := 0) rfl
    have hd1 := cell_blkD Z7.out (i := 1) rfl
    have hd2 := cell_blkD Z7.out (i := 2) rfl
    have hd3 := cell_blkD Z7.out (i := 3) rfl
    go_wp2_with fail
    clear hd0 hd1 hd2 hd3
    refine (l2SpoilChange_any R _ f wh num s _ D7.out.rd (by omega) (by omega) hs).mono ?_
    rintro e w8 ⟨f', wh', num', s', rfl, hf', hs', q8, hq4, hq5, hr8, hg8⟩
    have D8 := toHid (D7.out.grow hRw hRb hr8 hg8)
    have Y8 := toHid (box_keep hg8 hRB Y7.out)
    have hz8 := box_keep hg8 (by omega) Z7.out
    have D9 := toHid (D8.out.row hz8 hw5 hRC #[.string f', .int .i64 wh', .int .i64 num', .string s'])
    have Y9 := toHid ((setRow_other w8 C B #[.string f', .int .i64 wh', .int .i64 num', .string s'] hCB).trans Y8.out)
    have Z9 := toHid (setRow_heap w8 C _ #[.string f', .int .i64 wh', .int .i64 num', .string s'] _ _ hz8)
    clear hr8 hg8 D7 Y7 Z7 D8 Y8
    go_wp2_with (refine wpList_store_row rfl 28 _ _ rfl C #[.string f', .int .i64 wh', .int .i64 num', .string s'] rfl rfl 28 _ hz8 (by kernel_rfl) rfl (by simp [Value.oneCell']) ?_)
    clear hz8
    generalize (w8.setRow C #[.string f', .int .i64 wh', .int .i64 num', .string s']) = w9 at *
    go_simp
    -- both boxes into the results
    refine wp_region_noPanic ?_
    refine wp_region_held_drew (S := fun z => z.cell? ⟨B, 0, none⟩ = some (.slice ka ks.length kc) ∧ z.cell? ⟨B, 1, none⟩ = some (.slice pa ps.length pc) ∧ z.cell? ⟨C, 0, none⟩ = some (.string f') ∧ z.cell? ⟨C, 1, none⟩ = some (.int .i64 wh') ∧ z.cell? ⟨C, 2, none⟩ = some (.int .i64 num') ∧ z.cell? ⟨C, 3, none⟩ = some (.string s')) (by kernel_rfl) ?_ (fun hHeld => ?_)
    · exact held6 Y9.out Z9.out
    have DD := toHid (D9.out.call (Below.refl _ _).drew)
    have YD : Hid (w9.drew.heap[B]? = some (.cells #[.slice ka ks.length kc, .slice pa ps.length pc] 26 (0, 0))) := Y9.out
    have ZD : Hid (w9.drew.heap[C]? = some (.cells #[.string f', .int .i64 wh', .int .i64 num', .string s'] 28 (0, 0))) := Z9.out
    generalize w9.drew = W0 at *
    refine wpAnyH_take (i := 0) (v := ?_) rfl (by kernel_rfl) (by kernel_rfl) (by kernel_rfl) (fun _ _ _ h => h) (Or.inl ⟨by rfl, ?_⟩) (by assumption) ?_
    rotate_left
    · intro w hSw; (try dsimp only at hSw); go_simp; try with_reducible rfl
    simp only [Act.put, List.setIfInBounds_toArray, List.set_cons_zero, List.set_cons_succ, List.getElem_toArray, List.getElem_cons_succ, List.getElem_cons_zero]
    refine wpAnyH_take (i := 1) (v := ?_) rfl (by kernel_rfl) (by kernel_rfl) (by kernel_rfl) (fun _ _ _ h => h) (Or.inl ⟨by rfl, ?_⟩) (by assumption) ?_
    rotate_left
    · intro w hSw; (try dsimp only at hSw); go_simp; try with_reducible rfl
    simp only [Act.put, List.setIfInBounds_toArray, List.set_cons_zero, List.set_cons_succ, List.getElem_toArray, List.getElem_cons_succ, List.getElem_cons_zero]
    have YX : Hid ((W0.setRow w.heap.size #[.slice ka ks.length kc, .slice pa ps.length pc]).heap[B]? = some (.cells #[.slice ka ks.length kc, .slice pa ps.length pc] 26 (0, 0))) := (setRow_other _ _ _ _ (by omega)).trans YD.out
    have ZX : Hid ((W0.setRow w.heap.size #[.slice ka ks.length kc, .slice pa ps.length pc]).heap[C]? = some (.cells #[.string f', .int .i64 wh', .int .i64 num', .string s'] 28 (0, 0))) := (setRow_other _ _ _ _ (by omega)).trans ZD.out
    have R1X := toHid ((setRow_other W0 w.heap.size (w.heap.size + 1) #[.slice ka ks.length kc, .slice pa ps.length pc] (by omega)).trans DD.out.r1)
    have R0X := toHid (setRow_heap W0 w.heap.size _ #[.slice ka ks.length kc, .slice pa ps.length pc] _ _ DD.out.r0)
    refine wpAnyH_ready (rs := [2]) (by kernel_rfl) (by simp) ?_
    refine AllReadyH.cons rfl (fun K hK => ?_) AllReadyH.nil
    refine step_store_rowC rfl 26 _ _ rfl w.heap.size #[.slice ka ks.length kc, .slice pa ps.length pc] rfl rfl 26 _ DD.out.r0 (by kernel_rfl) rfl (by simp [Value.oneCell']) ?_
    refine hK.out _ _ (held6 YX.out ZX.out) (fun _ => ?_)
    clear hK K hHeld
    have hg1 : Hid (W0.grownBy (W0.setRow w.heap.size #[.slice ka ks.length kc, .slice pa ps.length pc]) (some w.heap.size)) := ⟨rfl, rfl, rfl, by simp, fun j _ hj => setRow_other _ _ _ _ (fun e => hj (by rw [e]))⟩
    have HK1 := toHid (own_farD DD.out.k hg1.out (fun q hq e => own_typeD DD.out.k DD.out.r0 (by decide) (by rw [hq, ← e])))
    have HP1 := toHid (own_farD DD.out.p hg1.out (fun q hq e => own_typeD DD.out.p DD.out.r0 (by decide) (by rw [hq, ← e])))
    have HB1 : Hid (Below w.heap.size w (W0.setRow w.heap.size #[.slice ka ks.length kc, .slice pa ps.length pc])) := below_grown DD.out.bl hg1.out (Nat.le_refl _)
    generalize (W0.setRow w.heap.size #[.slice ka ks.length kc, .slice pa ps.length pc]) = W1 at *
    clear DD YD ZD hg1
    have hg2 : Hid (W1.grownBy (W1.setRow (w.heap.size + 1) #[.string f', .int .i64 wh', .int .i64 num', .string s']) (some (w.heap.size + 1))) := ⟨rfl, rfl, rfl, by simp, fun j _ hj => setRow_other _ _ _ _ (fun e => hj (by rw [e]))⟩
    have YZ : Hid ((W1.setRow (w.heap.size + 1) #[.string f', .int .i64 wh', .int .i64 num', .string s']).heap[B]? = some (.cells #[.slice ka ks.length kc, .slice pa ps.length pc] 26 (0, 0))) := (setRow_other _ _ _ _ (by omega)).trans YX.out
    have ZZ : Hid ((W1.setRow (w.heap.size + 1) #[.string f', .int .i64 wh', .int .i64 num', .string s']).heap[C]? = some (.cells #[.string f', .int .i64 wh', .int .i64 num', .string s'] 28 (0, 0))) := (setRow_other _ _ _ _ (by omega)).trans ZX.out
    have HK2 := toHid (tris_own (own_farD HK1.out hg2.out (fun q hq e => own_typeD HK1.out R1X.out (by decide) (by rw [hq, ← e]))))
    have HP2 := toHid (tris_own (own_farD HP1.out hg2.out (fun q hq e => own_typeD HP1.out R1X.out (by decide) (by rw [hq, ← e]))))
    have HB2 : Hid (Below w.heap.size w (W1.setRow (w.heap.size + 1) #[.string f', .int .i64 wh', .int .i64 num', .string s'])) := below_grown HB1.out hg2.out (by omega)
    have h00 := cell_blkD ((setRow_other W1 (w.heap.size + 1) w.heap.size #[.string f', .int .i64 wh', .int .i64 num', .string s'] (by omega)).trans R0X.out) (i := 0) rfl
    have h01 := cell_blkD ((setRow_other W1 (w.heap.size + 1) w.heap.size #[.string f', .int .i64 wh', .int .i64 num', .string s'] (by omega)).trans R0X.out) (i := 1) rfl
    have h10 := cell_blkD (setRow_heap W1 (w.heap.size + 1) _ #[.string f', .int .i64 wh', .int .i64 num', .string s'] _ _ R1X.out) (i := 0) rfl
    have h11 := cell_blkD (setRow_heap W1 (w.heap.size + 1) _ #[.string f', .int .i64 wh', .int .i64 num', .string s'] _ _ R1X.out) (i := 1) rfl
    have h12 := cell_blkD (setRow_heap W1 (w.heap.size + 1) _ #[.string f', .int .i64 wh', .int .i64 num', .string s'] _ _ R1X.out) (i := 2) rfl
    have h13 := cell_blkD (setRow_heap W1 (w.heap.size + 1) _ #[.string f', .int .i64 wh', .int .i64 num', .string s'] _ _ R1X.out) (i := 3) rfl
    refine wpAnyH_ready (rs := [3]) (by kernel_rfl) (by simp) ?_
    refine AllReadyH.cons rfl (fun K hK => ?_) AllReadyH.nil
    refine step_store_rowC rfl 28 _ _ rfl (w.heap.size + 1) #[.string f', .int .i64 wh', .int .i64 num', .string s'] rfl rfl 28 _ R1X.out (by kernel_rfl) rfl (by simp [Value.oneCell']) ?_
    refine hK.out _ _ (held6 YZ.out ZZ.out) (fun _ => ?_)
    clear hK K
    generalize (W1.setRow (w.heap.size + 1) #[.string f', .int .i64 wh', .int .i64 num', .string s']) = W2 at *
    refine wpAnyH_done (by kernel_rfl) ?_ _
    refine NoPanic.normal ?_
    go_wp2_with fail
    exact bodyPost_ret (v := .tuple #[.agg #[.slice ka ks.length kc, .slice pa ps.length pc], .agg #[.string f', .int .i64 wh', .int .i64 num', .string s']]) (by simp [results, Tryz.results4, go_sem, h00, h01, h10, h11, h12, h13]) rfl ⟨_, _, ks, ps, ⟨f', wh', num', s'⟩, rfl, HK2.out, HP2.out, HOK.out.1, HOK.out.2, (by show f'.size ≤ 2000; omega), (by show s'.size ≤ 2000; omega), HB2.out⟩
  · have hxb : (x == 0) = false := by simp [hx]
    clear hx
    go_wp2_with fail
    -- both boxes into the results
    refine wp_region_noPanic ?_
    refine wp_region_held_drew (S := fun z => z.cell? ⟨B, 0, none⟩ = some (.slice ka ks.length kc) ∧ z.cell? ⟨B, 1, none⟩ = some (.slice pa ps.length pc) ∧ z.cell? ⟨C, 0, none⟩ = some (.string f) ∧ z.cell? ⟨C, 1, none⟩ = some (.int .i64 wh) ∧ z.cell? ⟨C, 2, none⟩ = some (.int .i64 num) ∧ z.cell? ⟨C, 3, none⟩ = some (.string s)) (by kernel_rfl) ?_ (fun hHeld => ?_)
    · exact held6 Y7.out Z7.out
    have DD := toHid (D7.out.call (Below.refl _ _).drew)
    have YD : Hid (w7.drew.heap[B]? = some (.cells #[.slice ka ks.length kc, .slice pa ps.length pc] 26 (0, 0))) := Y7.out
    have ZD : Hid (w7.drew.heap[C]? = some (.cells #[.string f, .int .i64 wh, .int .i64 num, .string s] 28 (0, 0))) := Z7.out
    generalize w7.drew = W0 at *
    refine wpAnyH_take (i := 0) (v := ?_) rfl (by kernel_rfl) (by kernel_rfl) (by kernel_rfl) (fun _ _ _ h => h) (Or.inl ⟨by rfl, ?_⟩) (by assumption) ?_
    rotate_left
    · intro w hSw; (try dsimp only at hSw); go_simp; try with_reducible rfl
    simp only [Act.put, List.setIfInBounds_toArray, List.set_cons_zero, List.set_cons_succ, List.getElem_toArray, List.getElem_cons_succ, List.getElem_cons_zero]
    refine wpAnyH_take (i := 1) (v := ?_) rfl (by kernel_rfl) (by kernel_rfl) (by kernel_rfl) (fun _ _ _ h => h) (Or.inl ⟨by rfl, ?_⟩) (by assumption) ?_
    rotate_left
    · intro w hSw; (try dsimp only at hSw); go_simp; try with_reducible rfl
    simp only [Act.put, List.setIfInBounds_toArray, List.set_cons_zero, List.set_cons_succ, List.getElem_toArray, List.getElem_cons_succ, List.getElem_cons_zero]
    have YX : Hid ((W0.setRow w.heap.size #[.slice ka ks.length kc, .slice pa ps.length pc]).heap[B]? = some (.cells #[.slice ka ks.length kc, .slice pa ps.length pc] 26 (0, 0))) := (setRow_other _ _ _ _ (by omega)).trans YD.out
    have ZX : Hid ((W0.setRow w.heap.size #[.slice ka ks.length kc, .slice pa ps.length pc]).heap[C]? = some (.cells #[.string f, .int .i64 wh, .int .i64 num, .string s] 28 (0, 0))) := (setRow_other _ _ _ _ (by omega)).trans ZD.out
    have R1X := toHid ((setRow_other W0 w.heap.size (w.heap.size + 1) #[.slice ka ks.length kc, .slice pa ps.length pc] (by omega)).trans DD.out.r1)
    have R0X := toHid (setRow_heap W0 w.heap.size _ #[.slice ka ks.length kc, .slice pa ps.length pc] _ _ DD.out.r0)
    refine wpAnyH_ready (rs := [2]) (by kernel_rfl) (by simp) ?_
    refine AllReadyH.cons rfl (fun K hK => ?_) AllReadyH.nil
    refine step_store_rowC rfl 26 _ _ rfl w.heap.size #[.slice ka ks.length kc, .slice pa ps.length pc] rfl rfl 26 _ DD.out.r0 (by kernel_rfl) rfl (by simp [Value.oneCell']) ?_
    refine hK.out _ _ (held6 YX.out ZX.out) (fun _ => ?_)
    clear hK K hHeld
    have hg1 : Hid (W0.grownBy (W0.setRow w.heap.size #[.slice ka ks.length kc, .slice pa ps.length pc]) (some w.heap.size)) := ⟨rfl, rfl, rfl, by simp, fun j _ hj => setRow_other _ _ _ _ (fun e => hj (by rw [e]))⟩
    have HK1 := toHid (own_farD DD.out.k hg1.out (fun q hq e => own_typeD DD.out.k DD.out.r0 (by decide) (by rw [hq, ← e])))
    have HP1 := toHid (own_farD DD.out.p hg1.out (fun q hq e => own_typeD DD.out.p DD.out.r0 (by decide) (by rw [hq, ← e])))
    have HB1 : Hid (Below w.heap.size w (W0.setRow w.heap.size #[.slice ka ks.length kc, .slice pa ps.length pc])) := below_grown DD.out.bl hg1.out (Nat.le_refl _)
    generalize (W0.setRow w.heap.size #[.slice ka ks.length kc, .slice pa ps.length pc]) = W1 at *
    clear DD YD ZD hg1
    have hg2 : Hid (W1.grownBy (W1.setRow (w.heap.size + 1) #[.string f, .int .i64 wh, .int .i64 num, .string s]) (some (w.heap.size + 1))) := ⟨rfl, rfl, rfl, by simp, fun j _ hj => setRow_other _ _ _ _ (fun e => hj (by rw [e]))⟩
    have YZ : Hid ((W1.setRow (w.heap.size + 1) #[.string f, .int .i64 wh, .int .i64 num, .string s]).heap[B]? = some (.cells #[.slice ka ks.length kc, .slice pa ps.length pc] 26 (0, 0))) := (setRow_other _ _ _ _ (by omega)).trans YX.out
    have ZZ : Hid ((W1.setRow (w.heap.size + 1) #[.string f, .int .i64 wh, .int .i64 num, .string s]).heap[C]? = some (.cells #[.string f, .int .i64 wh, .int .i64 num, .string s] 28 (0, 0))) := (setRow_other _ _ _ _ (by omega)).trans ZX.out
    have HK2 := toHid (tris_own (own_farD HK1.out hg2.out (fun q hq e => own_typeD HK1.out R1X.out (by decide) (by rw [hq, ← e]))))
    have HP2 := toHid (tris_own (own_farD HP1.out hg2.out (fun q hq e => own_typeD HP1.out R1X.out (by decide) (by rw [hq, ← e]))))
    have HB2 : Hid (Below w.heap.size w (W1.setRow (w.heap.size + 1) #[.string f, .int .i64 wh, .int .i64 num, .string s])) := below_grown HB1.out hg2.out (by omega)
    have h00 := cell_blkD ((setRow_other W1 (w.heap.size + 1) w.heap.size #[.string f, .int .i64 wh, .int .i64 num, .string s] (by omega)).trans R0X.out) (i := 0) rfl
    have h01 := cell_blkD ((setRow_other W1 (w.heap.size + 1) w.heap.size #[.string f, .int .i64 wh, .int .i64 num, .string s] (by omega)).trans R0X.out) (i := 1) rfl
    have h10 := cell_blkD (setRow_heap W1 (w.heap.size + 1) _ #[.string f, .int .i64 wh, .int .i64 num, .string s] _ _ R1X.out) (i := 0) rfl
    have h11 := cell_blkD (setRow_heap W1 (w.heap.size + 1) _ #[.string f, .int .i64 wh, .int .i64 num, .string s] _ _ R1X.out) (i := 1) rfl
    have h12 := cell_blkD (setRow_heap W1 (w.heap.size + 1) _ #[.string f, .int .i64 wh, .int .i64 num, .string s] _ _ R1X.out) (i := 2) rfl
    have h13 := cell_blkD (setRow_heap W1 (w.heap.size + 1) _ #[.string f, .int .i64 wh, .int .i64 num, .string s] _ _ R1X.out) (i := 3) rfl
    refine wpAnyH_ready (rs := [3]) (by kernel_rfl) (by simp) ?_
    refine AllReadyH.cons rfl (fun K hK => ?_) AllReadyH.nil
    refine step_store_rowC rfl 28 _ _ rfl (w.heap.size + 1) #[.string f, .int .i64 wh, .int .i64 num, .string s] rfl rfl 28 _ R1X.out (by kernel_rfl) rfl (by simp [Value.oneCell']) ?_
    refine hK.out _ _ (held6 YZ.out ZZ.out) (fun _ => ?_)
    clear hK K
    generalize (W1.setRow (w.heap.size + 1) #[.string f, .int .i64 wh, .int .i64 num, .string s]) = W2 at *
    refine wpAnyH_done (by kernel_rfl) ?_ _
    refine NoPanic.normal ?_
    go_wp2_with fail
    exact bodyPost_ret (v := .tuple #[.agg #[.slice ka ks.length kc, .slice pa ps.length pc], .agg #[.string f, .int .i64 wh, .int .i64 num, .string s]]) (by simp [results, Tryz.results4, go_sem, h00, h01, h10, h11, h12, h13]) rfl ⟨_, _, ks, ps, ⟨f, wh, num, s⟩, rfl, HK2.out, HP2.out, HOK.out.1, HOK.out.2, (by show f.size ≤ 2000; omega), (by show s.size ≤ 2000; omega), HB2.out⟩
end Go.Proofs.YtibpkhmiahamcaaGreatDoor.Dr

/-
  Draws: l2Bend.
-/
namespace Go.Proofs.YtibpkhmiahamcaaGreatDoor.Dr
open Go.RowKit
set_option linter.unusedSimpArgs false
set_option linter.unusedVariables false

def bendL : List ByteArray := [⟨#[32]⟩, ⟨#[48]⟩, ⟨#[10]⟩, ⟨#[45]⟩, ⟨#[120]⟩]
theorem bend_size : ∀ s ∈ bendL, s.size ≤ 1 := by decide
theorem bend_ix (x : Int) (n : Nat) (h0 : 0 ≤ x) (h1 : x < 256) (hn : n ≤ 100000) : ∃ i : Nat, i ≤ n ∧ wrap64 ((wrap64 (x * ((n : Int) + 1))).tdiv 256) = (i : Int) := by
  have m0 : 0 ≤ x * ((n : Int) + 1) := Int.mul_nonneg h0 (by omega)
  have m1 : x * ((n : Int) + 1) ≤ 255 * ((n : Int) + 1) := Int.mul_le_mul_of_nonneg_right (by omega) (by omega)
  generalize x * ((n : Int) + 1) = y at *
  have e1 : wrap64 y = y := by unfold wrap64; omega
  rw [e1, Int.tdiv_eq_ediv_of_nonneg m0]
  have e2 : wrap64 (y / 256) = y / 256 := by unfold wrap64; omega
  rw [e2]
  exact ⟨(y / 256).toNat, by omega, by omega⟩
set_option maxRecDepth 100000 in
set_option maxHeartbeats 3200000 in
theorem l2Bend_any (R p : Nat) (s : ByteArray) (w : World) (h : Rd w R p) (hp : p ≤ 800000) (hs : s.size ≤ 100000) :
    Calls Tryz.prog 38 #[.pointer (some ⟨R, 0, none⟩), .string s] w fun e w' => ∃ t : ByteArray, e = .returned (.string t) ∧ t.size ≤ 2 * s.size + 1 ∧ Out w R p 5 w' := by
  have HR := toHid h
  have hz := h.lt
  clear h
  go_enter Tryz.func38, Tryz.ntmps38
  go_wp2_with fail
  refine (pick_any R p 256 _ HR.out (by omega) (by omega)).mono ?_
  rintro e w1 ⟨x, rfl, hx0, hx1, -, hr1, hg1⟩
  have hx1 := hx1 (by omega)
  have R1 : Hid (Rd w1 R (p + 1) ∧ w.grownBy w1 (some R)) := ⟨hr1, hg1⟩
  clear hr1 hg1 HR
  obtain ⟨i, hi, hie⟩ := bend_ix x s.size hx0 hx1 hs
  have HIE := toHid hie
  clear hie
  go_wp2_with fail
  rw [HIE.out]
  refine (pick_any R (p + 1) 4 _ R1.out.1 (by omega) (by omega)).mono ?_
  rintro e w2 ⟨z, rfl, hz0, hz1, -, hr2, hg2⟩
  have hz1 := hz1 (by omega)
  have R2 : Hid (Rd w2 R (p + 1 + 1) ∧ w.grownBy w2 (some R)) := ⟨hr2, grown_on R1.out.2 hg2⟩
  clear hr2 hg2 R1 HIE
  have hi0 : (0 : Int) ≤ (i : Int) := by omega
  have hi1 : (i : Int) ≤ (s.size : Int) := by omega
  rcases (show z = 0 ∨ z = 1 ∨ z = 2 ∨ z = 3 by omega) with rfl | rfl | rfl | rfl
  · go_wp2_with fail
    exact bodyPost_ret (v := .string (s.extract 0 i)) (by simp [results, Tryz.results38, go_sem]) rfl ⟨_, rfl, by rw [ByteArray.size_extract]; omega, _, by omega, by omega, R2.out.1, R2.out.2⟩
  · go_wp2
    have HSZ : Hid ((s.extract 0 i).size ≤ i ∧ (s.extract i s.size).size ≤ s.size - i) := ⟨by rw [ByteArray.size_extract]; omega, by rw [ByteArray.size_extract]; omega⟩
    refine wp_region_noPanic ?_
    refine wp_region_held_drew (S := fun _ => True) (by kernel_rfl) trivial (fun hHeld => ?_)
    have RD : Hid (Rd w2.drew R (p + 1 + 1) ∧ w.grownBy w2.drew (some R)) := ⟨R2.out.1.far (Below.refl _ _).drew, grown_on R2.out.2 (grown_of (Below.refl _ _).drew _)⟩
    generalize w2.drew = W0 at *
    clear R2
    have HK : Hid (Below W0.heap.size W0 (W0.alloc (.cells #[.string ⟨#[32]⟩, .string ⟨#[48]⟩, .string ⟨#[10]⟩, .string ⟨#[45]⟩, .string ⟨#[120]⟩] 9))) := (Below.refl _ _).alloc (Nat.le_refl _) _
    have HS : Hid (StrsAt (W0.alloc (.cells #[.string ⟨#[32]⟩, .string ⟨#[48]⟩, .string ⟨#[10]⟩, .string ⟨#[45]⟩, .string ⟨#[120]⟩] 9)) (.slice (some ⟨W0.heap.size, 0, none⟩) 5 5) bendL) := strs_of bendL (heap_newD W0 _) rfl (by decide)
    have HO := toHid (of_any R (p + 1 + 1) _ bendL _ (RD.out.1.far HK.out) (by omega) HS.out (by decide))
    refine wpAnyH_take (i := 0) (v := ?_) rfl (by kernel_rfl) (by kernel_rfl) (by kernel_rfl) (fun _ _ _ h => h) (Or.inl ⟨by rfl, ?_⟩) (by assumption) ?_
    rotate_left
    · intro w hSw; (try dsimp only at hSw); go_simp; try with_reducible rfl
    simp only [Act.put, List.setIfInBounds_toArray, List.set_cons_zero, List.set_cons_succ, List.getElem_toArray, List.getElem_cons_succ, List.getElem_cons_zero]
    refine wpAnyH_take (i := 1) (v := ?_) rfl (by kernel_rfl) (by kernel_rfl) (by kernel_rfl) (fun _ _ _ h => h) (Or.inl ⟨by rfl, ?_⟩) (by assumption) ?_
    rotate_left
    · intro w hSw; (try dsimp only at hSw); go_simp; try with_reducible rfl
    simp only [Act.put, List.setIfInBounds_toArray, List.set_cons_zero, List.set_cons_succ, List.getElem_toArray, List.getElem_cons_succ, List.getElem_cons_zero]
    refine wpAnyH_take (i := 2) (v := ?_) rfl (by kernel_rfl) (by kernel_rfl) (by kernel_rfl) (fun _ _ _ h => h) (Or.inl ⟨by rfl, ?_⟩) (by assumption) ?_
    rotate_left
    · intro w hSw; (try dsimp only at hSw); go_simp; try with_reducible rfl
    simp only [Act.put, List.setIfInBounds_toArray, List.set_cons_zero, List.set_cons_succ, List.getElem_toArray, List.getElem_cons_succ, List.getElem_cons_zero]
    refine wpAnyH_take (i := 3) (v := ?_) rfl (by kernel_rfl) (by kernel_rfl) (by kernel_rfl) (fun _ _ _ h => h) (Or.inl ⟨by rfl, ?_⟩) (by assumption) ?_
    rotate_left
    · intro w hSw; (try dsimp only at hSw); go_simp; try with_reducible rfl
    simp only [Act.put, List.setIfInBounds_toArray, List.set_cons_zero, List.set_cons_succ, List.getElem_toArray, List.getElem_cons_succ, List.getElem_cons_zero]
    refine wpAnyH_take (i := 7) (v := ?_) rfl (by kernel_rfl) (by kernel_rfl) (by kernel_rfl) (fun _ _ _ h => h) (Or.inl ⟨by rfl, ?_⟩) (by assumption) ?_
    rotate_left
    · intro w hSw; (try dsimp only at hSw); go_simp; try with_reducible rfl
    simp only [Act.put, List.setIfInBounds_toArray, List.set_cons_zero, List.set_cons_succ, List.getElem_toArray, List.getElem_cons_succ, List.getElem_cons_zero]
    refine wpAnyH_take (i := 8) (v := ?_) rfl (by kernel_rfl) (by kernel_rfl) (by kernel_rfl) (fun _ _ _ h => h) (Or.inl ⟨by rfl, ?_⟩) (by assumption) ?_
    rotate_left
    · intro w hSw; (try dsimp only at hSw); go_simp; try with_reducible rfl
    simp only [Act.put, List.setIfInBounds_toArray, List.set_cons_zero, List.set_cons_succ, List.getElem_toArray, List.getElem_cons_succ, List.getElem_cons_zero]
    refine wpAnyH_take (i := 9) (v := ?_) rfl (by kernel_rfl) (by kernel_rfl) (by kernel_rfl) (fun _ _ _ h => h) (Or.inl ⟨by rfl, ?_⟩) (by assumption) ?_
    rotate_left
    · intro w hSw; (try dsimp only at hSw); go_simp; try with_reducible rfl
    simp only [Act.put, List.setIfInBounds_toArray, List.set_cons_zero, List.set_cons_succ, List.getElem_toArray, List.getElem_cons_succ, List.getElem_cons_zero]
    refine wpAnyH_ready (rs := [4]) (by kernel_rfl) (by simp) ?_
    refine AllReadyH.cons rfl (fun K hK => ?_) AllReadyH.nil
    go_simp
    refine hK.out _ _ trivial (fun _ => ?_)
    clear hK K
    refine wpAnyH_ready (rs := [5]) (by kernel_rfl) (by simp) ?_
    refine AllReadyH.cons rfl (fun K hK => ?_) AllReadyH.nil
    go_simp
    refine HO.out.mono ?_
    rintro e w4 ⟨f, rfl, hf, hr4, hg4⟩
    have hfs := bend_size f hf
    have R4 : Hid (Rd w4 R (p + 1 + 1 + 1) ∧ w.grownBy w4 (some R)) := ⟨hr4, grown_on RD.out.2 (grown_on (grown_of HK.out _) hg4)⟩
    refine hK.out _ _ trivial (fun _ => ?_)
    clear hK K hf hr4 hg4 HO HS HK RD
    obtain ⟨sz1, sz2⟩ := HSZ.out
    generalize s.extract 0 i = s1 at *
    generalize s.extract i s.size = s2 at *
    have cz1 : ¬ 9223372036854775807 < s1.size + f.size := by omega
    have cz2 : ¬ 9223372036854775807 < s1.size + f.size + s2.size := by omega
    have HF : Hid (((s1 ++ f) ++ s2).size ≤ 2 * s.size + 1) := by show _ ≤ _; rw [ByteArray.size_append, ByteArray.size_append]; omega
    refine wpAnyH_take (i := 6) (v := ?_) rfl (by kernel_rfl) (by kernel_rfl) (by kernel_rfl) (fun _ _ _ h => h) (Or.inl ⟨by rfl, ?_⟩) (by assumption) ?_
    rotate_left
    · intro w hSw; (try dsimp only at hSw); go_simp; try with_reducible rfl
    simp only [Act.put, List.setIfInBounds_toArray, List.set_cons_zero, List.set_cons_succ, List.getElem_toArray, List.getElem_cons_succ, List.getElem_cons_zero]
    refine wpAnyH_take (i := 10) (v := ?_) rfl (by kernel_rfl) (by kernel_rfl) (by kernel_rfl) (fun _ _ _ h => h) (Or.inl ⟨by rfl, ?_⟩) (by assumption) ?_
    rotate_left
    · intro w hSw; (try dsimp only at hSw); go_simp; try with_reducible rfl
    simp only [Act.put, List.setIfInBounds_toArray, List.set_cons_zero, List.set_cons_succ, List.getElem_toArray, List.getElem_cons_succ, List.getElem_cons_zero]
    refine wpAnyH_take (i := 11) (v := ?_) rfl (by kernel_rfl) (by kernel_rfl) (by kernel_rfl) (fun _ _ _ h => h) (Or.inl ⟨by rfl, ?_⟩) (by assumption) ?_
    rotate_left
    · intro w hSw; (try dsimp only at hSw); go_simp; try with_reducible rfl
    simp only [Act.put, List.setIfInBounds_toArray, List.set_cons_zero, List.set_cons_succ, List.getElem_toArray, List.getElem_cons_succ, List.getElem_cons_zero]
    refine wpAnyH_done (by kernel_rfl) ?_ _
    refine NoPanic.normal ?_
    go_wp2_with fail
    exact bodyPost_ret (v := .string ((s1 ++ f) ++ s2)) (by simp [results, Tryz.results38, go_sem]) rfl ⟨_, rfl, HF.out, _, by omega, by omega, R4.out.1, R4.out.2⟩
  · by_cases hlt : (i : Int) < (s.size : Int)
    · have hlt1 : (i : Int) + 1 ≤ (s.size : Int) := by omega
      have hlt2 : (0 : Int) ≤ (i : Int) + 1 := by omega
      have hwi : IntKind.i64.wrap ((i : Int) + 1) = (i : Int) + 1 := by rw [IntKind.wrap_i64]; omega
      have htn : ((i : Int) + 1).toNat = i + 1 := by omega
      go_wp2
      refine wp_region_noPanic ?_
      refine wp_region_held_drew (S := fun _ => True) (by kernel_rfl) trivial (fun hHeld => ?_)
      have RD : Hid (Rd w2.drew R (p + 1 + 1) ∧ w.grownBy w2.drew (some R)) := ⟨R2.out.1.far (Below.refl _ _).drew, grown_on R2.out.2 (grown_of (Below.refl _ _).drew _)⟩
      generalize w2.drew = W0 at *
      clear R2
      refine wpAnyH_take (i := 0) (v := ?_) rfl (by kernel_rfl) (by kernel_rfl) (by kernel_rfl) (fun _ _ _ h => h) (Or.inl ⟨by rfl, ?_⟩) (by assumption) ?_
      rotate_left
      · intro w hSw; (try dsimp only at hSw); go_simp; try with_reducible rfl
      simp only [Act.put, List.setIfInBounds_toArray, List.set_cons_zero, List.set_cons_succ, List.getElem_toArray, List.getElem_cons_succ, List.getElem_cons_zero]
      refine wpAnyH_take (i := 1) (v := ?_) rfl (by kernel_rfl) (by kernel_rfl) (by kernel_rfl) (fun _ _ _ h => h) (Or.inl ⟨by rfl, ?_⟩) (by assumption) ?_
      rotate_left
      · intro w hSw; (try dsimp only at hSw); go_simp; try with_reducible rfl
      simp only [Act.put, List.setIfInBounds_toArray, List.set_cons_zero, List.set_cons_succ, List.getElem_toArray, List.getElem_cons_succ, List.getElem_cons_zero]
      refine wpAnyH_take (i := 2) (v := ?_) rfl (by kernel_rfl) (by kernel_rfl) (by kernel_rfl) (fun _ _ _ h => h) (Or.inl ⟨by rfl, ?_⟩) (by assumption) ?_
      rotate_left
      · intro w hSw; (try dsimp only at hSw); go_simp; try with_reducible rfl
      simp only [Act.put, List.setIfInBounds_toArray, List.set_cons_zero, List.set_cons_succ, List.getElem_toArray, List.getElem_cons_succ, List.getElem_cons_zero]
      refine wpAnyH_take (i := 3) (v := ?_) rfl (by kernel_rfl) (by kernel_rfl) (by kernel_rfl) (fun _ _ _ h => h) (Or.inl ⟨by rfl, ?_⟩) (by assumption) ?_
      rotate_left
      · intro w hSw; (try dsimp only at hSw); go_simp; try with_reducible rfl
      simp only [Act.put, List.setIfInBounds_toArray, List.set_cons_zero, List.set_cons_succ, List.getElem_toArray, List.getElem_cons_succ, List.getElem_cons_zero]
      refine wpAnyH_take (i := 4) (v := ?_) rfl (by kernel_rfl) (by kernel_rfl) (by kernel_rfl) (fun _ _ _ h => h) (Or.inl ⟨by rfl, ?_⟩) (by assumption) ?_
      rotate_left
      · intro w hSw; (try dsimp only at hSw); go_simp; try with_reducible rfl
      simp only [Act.put, List.setIfInBounds_toArray, List.set_cons_zero, List.set_cons_succ, List.getElem_toArray, List.getElem_cons_succ, List.getElem_cons_zero]
      refine wpAnyH_take (i := 5) (v := ?_) rfl (by kernel_rfl) (by kernel_rfl) (by kernel_rfl) (fun _ _ _ h => h) (Or.inl ⟨by rfl, ?_⟩) (by assumption) ?_
      rotate_left
      · intro w hSw; (try dsimp only at hSw); go_simp; try with_reducible rfl
      simp only [Act.put, List.setIfInBounds_toArray, List.set_cons_zero, List.set_cons_succ, List.getElem_toArray, List.getElem_cons_succ, List.getElem_cons_zero]
      refine wpAnyH_take (i := 6) (v := ?_) rfl (by kernel_rfl) (by kernel_rfl) (by kernel_rfl) (fun _ _ _ h => h) (Or.inl ⟨by rfl, ?_⟩) (by assumption) ?_
      rotate_left
      · intro w hSw; (try dsimp only at hSw); go_simp; try with_reducible rfl
      simp only [Act.put, List.setIfInBounds_toArray, List.set_cons_zero, List.set_cons_succ, List.getElem_toArray, List.getElem_cons_succ, List.getElem_cons_zero]
      have HSZ : Hid ((s.extract 0 i).size ≤ i ∧ (s.extract (i + 1) s.size).size ≤ s.size - i) := ⟨by rw [ByteArray.size_extract]; omega, by rw [ByteArray.size_extract]; omega⟩
      obtain ⟨sz1, sz2⟩ := HSZ.out
      generalize s.extract 0 i = s1 at *
      generalize s.extract (i + 1) s.size = s2 at *
      have cz1 : ¬ 9223372036854775807 < s1.size + s2.size := by omega
      have HF : Hid ((s1 ++ s2).size ≤ 2 * s.size + 1) := by show _ ≤ _; rw [ByteArray.size_append]; omega
      refine wpAnyH_take (i := 7) (v := ?_) rfl (by kernel_rfl) (by kernel_rfl) (by kernel_rfl) (fun _ _ _ h => h) (Or.inl ⟨by rfl, ?_⟩) (by assumption) ?_
      rotate_left
      · intro w hSw; (try dsimp only at hSw); go_simp; try with_reducible rfl
      simp only [Act.put, List.setIfInBounds_toArray, List.set_cons_zero, List.set_cons_succ, List.getElem_toArray, List.getElem_cons_succ, List.getElem_cons_zero]
      refine wpAnyH_take (i := 8) (v := ?_) rfl (by kernel_rfl) (by kernel_rfl) (by kernel_rfl) (fun _ _ _ h => h) (Or.inl ⟨by rfl, ?_⟩) (by assumption) ?_
      rotate_left
      · intro w hSw; (try dsimp only at hSw); go_simp; try with_reducible rfl
      simp only [Act.put, List.setIfInBounds_toArray, List.set_cons_zero, List.set_cons_succ, List.getElem_toArray, List.getElem_cons_succ, List.getElem_cons_zero]
      refine wpAnyH_done (by kernel_rfl) ?_ _
      refine NoPanic.normal ?_
      go_wp2_with fail
      exact bodyPost_ret (v := .string (s1 ++ s2)) (by simp [results, Tryz.results38, go_sem]) rfl ⟨_, rfl, HF.out, _, by omega, by omega, RD.out.1, RD.out.2⟩
    · go_wp2_with fail
      exact bodyPost_ret (v := .string (s ++ s.extract i s.size)) (by simp [results, Tryz.results38, go_sem]) rfl ⟨_, rfl, by rw [ByteArray.size_append, ByteArray.size_extract]; omega, _, by omega, by omega, R2.out.1, R2.out.2⟩
  · go_wp2_with fail
    exact bodyPost_ret (v := .string (s ++ s.extract i s.size)) (by simp [results, Tryz.results38, go_sem]) rfl ⟨_, rfl, by rw [ByteArray.size_append, ByteArray.size_extract]; omega, _, by omega, by omega, R2.out.1, R2.out.2⟩
end Go.Proofs.YtibpkhmiahamcaaGreatDoor.Dr
