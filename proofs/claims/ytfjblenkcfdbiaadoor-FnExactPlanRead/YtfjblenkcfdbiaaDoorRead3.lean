
/-
  The specification's PlanRead.
-/
import Derived.Test.YtfjblenkcfdbiaaDoorRead2
namespace Go.Proofs.YtfjblenkcfdbiaaDoor
open Go.RowKit
set_option linter.unusedSimpArgs false

set_option maxHeartbeats 800000 in
theorem specRead_short (s : ByteArray) (w : World) (hs : s.size ≤ 1048576) (h5 : (cutA [] (bytes s)).length < 5) :
    Calls Tryd.prog 9 #[.string s] w fun e w' => e = .returned (readV false noChg) ∧ Below w.heap.size w w' := by
  go_enter Tryd.func9, Tryd.ntmps9
  go_wp2_with fail
  refine (l2Cut_any s _ hs).mono ?_
  rintro e w1 ⟨v, ws, rfl, ⟨g, off, cap, rfl, _, _, _⟩, hws, hb1⟩
  have hlen : ws.length < 5 := by rw [← hws, List.length_map] at h5; exact h5
  clear hws h5
  generalize ws.length = n at *
  have hrow : w1.heap[w.heap.size]? = some (.cells #[.string ⟨#[]⟩, .int .i64 0, .int .i64 0, .string ⟨#[]⟩] 26) := by
    rw [hb1.block _ (by simp)]
    show (w.heap.push _)[w.heap.size]? = _
    simp
  have HB1 : Hid (Below w.heap.size w w1) := below_step ((Below.refl _ _).alloc (Nat.le_refl _) _) hb1
  have h1 : ((n : Nat) : Int) < 5 := by omega
  clear hb1
  go_wp2_with (refine wpList_store_row rfl 26 _ _ rfl w.heap.size #[.string ⟨#[]⟩, .int .i64 0, .int .i64 0, .string ⟨#[]⟩] rfl rfl 26 _ hrow (by kernel_rfl) rfl (chg_one _ _ _ _) ?_)
  exact bodyPost_ret (v := readV false noChg) (by simp [results, Tryd.results9, go_sem, readV, chgV, noChg, cell_setRow_same _ _ _ _ _ _ _ hrow]) rfl ⟨rfl, below_setRow HB1.out (Nat.le_refl _) _⟩

/-- What the first k words say of b; 0 for none. -/
def whatTo : Nat → ByteArray → Int
  | 0, _ => 0
  | k + 1, b => if wordAt k = b then (k : Int) + 1 else whatTo k b
theorem whatTo_five (b : ByteArray) : whatTo 5 b = whatI b := by
  have h01 : ¬ wState = wKind := by decide
  have h02 : ¬ wState = wTime := by decide
  have h03 : ¬ wState = wLevel := by decide
  have h04 : ¬ wState = wRoute := by decide
  have h11 : ¬ wRoute = wKind := by decide
  have h12 : ¬ wRoute = wTime := by decide
  have h13 : ¬ wRoute = wLevel := by decide
  have h21 : ¬ wLevel = wKind := by decide
  have h22 : ¬ wLevel = wTime := by decide
  have h31 : ¬ wTime = wKind := by decide
  rcases what_cases b with ⟨e, e0, e1, e2, e3, e4⟩ | ⟨e, rfl⟩ | ⟨e, rfl⟩ | ⟨e, rfl⟩ | ⟨e, rfl⟩ | ⟨e, rfl⟩
  · rw [e]
    simp only [whatTo, wordAt]
    rw [if_neg (Ne.symm e4), if_neg (Ne.symm e3), if_neg (Ne.symm e2), if_neg (Ne.symm e1), if_neg (Ne.symm e0)]
  all_goals (rw [e]; simp [whatTo, wordAt, *])

theorem piece_at {ws : List ByteArray} {l : List (List UInt8)} (h : ws.map bytes = l) {i : Nat} {a : List UInt8} (ha : l[i]? = some a) : ws[i]? = some (mkS a) := by
  rw [← h, List.getElem?_map] at ha
  cases hx : ws[i]? with
  | none => rw [hx] at ha; cases ha
  | some x =>
    rw [hx] at ha
    have e : bytes x = a := by simpa using ha
    rw [← e, mkS_bytes]
/-- The pieces of a text of at least five. -/
theorem ws_five {s : ByteArray} {ws : List ByteArray} {a0 a1 a2 a3 r : List UInt8} (hws : ws.map bytes = cutA [] (bytes s)) (h5 : bytes s = a0 ++ 32 :: (a1 ++ 32 :: (a2 ++ 32 :: (a3 ++ 32 :: r)))) (h0 : NoSp a0) (h1 : NoSp a1) (h2 : NoSp a2) (h3 : NoSp a3) :
    5 ≤ ws.length ∧ ws[0]? = some (mkS a0) ∧ ws[1]? = some (mkS a1) ∧ ws[2]? = some (mkS a2) ∧ ws[3]? = some (mkS a3) := by
  rw [h5, cut_some _ _ _ h0, cut_some _ _ _ h1, cut_some _ _ _ h2, cut_some _ _ _ h3] at hws
  simp only [List.nil_append] at hws
  refine ⟨?_, piece_at hws rfl, piece_at hws rfl, piece_at hws rfl, piece_at hws rfl⟩
  have h4 := cut_pos r []
  have h6 := congrArg List.length hws
  rw [List.length_map] at h6
  simp only [List.length_cons] at h6
  omega

/-- All ways through a piece of code come to one state and one sort of world. -/
theorem wp_join {P : Program} {c : Code} {Q : Exit → Act → World → Prop} {a : Act} {w : World} (F : World → Prop) (a' : Act) (h : c.wp P (fun e b z => e = .normal ∧ b = a' ∧ F z) a w) (k : ∀ z, F z → Q .normal a' z) : c.wp P Q a w :=
  Code.wp_mono (fun e b z ⟨he, hb, hz⟩ => by subst he; subst hb; exact k z hz) h

/-- While the specification reads: the pieces, the result's row, the change's row. -/
structure RdAt (w : World) (g off C : Nat) (s0 s1 s2 s3 : ByteArray) (cs : Array Value) (z : World) : Prop where
  gC : g ≠ C
  bC : w.heap.size < C
  c0 : z.cell? ⟨g, off, none⟩ = some (.string s0)
  c1 : z.cell? ⟨g, off + 1, none⟩ = some (.string s1)
  c2 : z.cell? ⟨g, off + 2, none⟩ = some (.string s2)
  c3 : z.cell? ⟨g, off + 3, none⟩ = some (.string s3)
  rowB : z.heap[w.heap.size]? = some (.cells #[.string ⟨#[]⟩, .int .i64 0, .int .i64 0, .string ⟨#[]⟩] 26)
  rowC : z.heap[C]? = some (.cells cs 26)
  bel : Below w.heap.size w z
theorem row_lt {z : World} {C : Nat} {o : Obj} (h : z.heap[C]? = some o) : C < z.heap.size := (Array.getElem?_eq_some_iff.1 h).1
theorem RdAt.step {w z z' : World} {g off C : Nat} {s0 s1 s2 s3 : ByteArray} {cs : Array Value} (h : RdAt w g off C s0 s1 s2 s3 cs z) (hb : Below z.heap.size z z') : RdAt w g off C s0 s1 s2 s3 cs z' :=
  ⟨h.gC, h.bC, cell_keep hb (Nat.le_refl _) h.c0, cell_keep hb (Nat.le_refl _) h.c1, cell_keep hb (Nat.le_refl _) h.c2, cell_keep hb (Nat.le_refl _) h.c3, by rw [hb.block _ (row_lt h.rowB)]; exact h.rowB, by rw [hb.block _ (row_lt h.rowC)]; exact h.rowC, below_step h.bel hb⟩
theorem RdAt.set {w z : World} {g off C : Nat} {s0 s1 s2 s3 : ByteArray} {cs : Array Value} (h : RdAt w g off C s0 s1 s2 s3 cs z) (cs' : Array Value) : RdAt w g off C s0 s1 s2 s3 cs' (z.setRow C cs') :=
  ⟨h.gC, h.bC, by rw [cell_setRow_other _ _ _ _ h.gC]; exact h.c0, by rw [cell_setRow_other _ _ _ _ h.gC]; exact h.c1, by rw [cell_setRow_other _ _ _ _ h.gC]; exact h.c2, by rw [cell_setRow_other _ _ _ _ h.gC]; exact h.c3, by rw [setRow_other _ _ _ _ (by have := h.bC; omega)]; exact h.rowB, setRow_heap _ _ _ _ _ _ h.rowC, below_setRow h.bel (Nat.le_of_lt h.bC) _⟩
theorem RdAt.cell {w z : World} {g off C : Nat} {s0 s1 s2 s3 : ByteArray} {cs : Array Value} (h : RdAt w g off C s0 s1 s2 s3 cs z) (j : Nat) : z.cell? ⟨C, j, none⟩ = cs[j]? := by
  simp [World.cell?, h.rowC]
theorem RdAt.open {w z : World} {g off C : Nat} {s0 s1 s2 s3 : ByteArray} {cs : Array Value} (h : RdAt w g off C s0 s1 s2 s3 cs z) (j : Nat) : z.frozen? ⟨C, j, none⟩ = false := by
  simp [World.frozen?, h.rowC]
theorem num_any (s : ByteArray) (w : World) (hs : s.size ≤ maxLen) :
    Calls Tryd.prog 23 #[.string s] w fun e w' => e = .returned (.int .i64 (numR s)) ∧ w' = w := l2Number_any s w hs

set_option maxRecDepth 100000 in
set_option maxHeartbeats 1600000 in
theorem specRead_five (s : ByteArray) (w : World) (hs : s.size ≤ 1048576) {a0 a1 a2 a3 r : List UInt8} (h5 : bytes s = a0 ++ 32 :: (a1 ++ 32 :: (a2 ++ 32 :: (a3 ++ 32 :: r)))) (h0 : NoSp a0) (h1 : NoSp a1) (h2 : NoSp a2) (h3 : NoSp a3) :
    Calls Tryd.prog 9 #[.string s] w fun e w' => e = .returned (readV (okR a0 a1 a2 a3 r) ⟨mkS a1, whatI (mkS a2), numR (mkS a3), mkS r⟩) ∧ Below w.heap.size w w' := by
  have HWS : Hid (∀ ws : List ByteArray, ws.map bytes = cutA [] (bytes s) → 5 ≤ ws.length ∧ ws[0]? = some (mkS a0) ∧ ws[1]? = some (mkS a1) ∧ ws[2]? = some (mkS a2) ∧ ws[3]? = some (mkS a3)) := fun ws hws => ws_five hws h5 h0 h1 h2 h3
  have HFI : Hid (theForm ⟨mkS a1, whatI (mkS a2), numR (mkS a3), mkS r⟩ = s ↔ okR a0 a1 a2 a3 r = true) := form_iff h5 h0
  have hz := congrArg List.length h5
  rw [bytes_length] at hz
  simp at hz
  have z1 : (mkS a1).size ≤ 1048576 := by rw [mkS_size]; omega
  have z3 : (mkS a3).size ≤ maxLen := by rw [mkS_size]; unfold maxLen; omega
  have z4 : (mkS r).size ≤ 1048576 := by rw [mkS_size]; omega
  have hsz : (mkS a0).size + (mkS a1).size + (mkS a2).size + (mkS a3).size + 4 ≤ s.size := by simp only [mkS_size]; omega
  have HX : Hid (s.extract ((mkS a0).size + (mkS a1).size + (mkS a2).size + (mkS a3).size + 4) s.size = mkS r) := by
    show s.extract _ _ = _
    apply bytes_inj
    rw [bytes_extract, bytes_mkS, h5]
    simp only [mkS_size]
    have e : a0 ++ 32 :: (a1 ++ 32 :: (a2 ++ 32 :: (a3 ++ 32 :: r))) = (a0 ++ [32] ++ a1 ++ [32] ++ a2 ++ [32] ++ a3 ++ [32]) ++ r := by simp
    rw [e, List.drop_left' (by simp; omega), List.take_of_length_le (by omega)]
  clear hz h5 h0 h1 h2 h3
  generalize okR a0 a1 a2 a3 r = okb at *
  generalize mkS a0 = s0 at *
  generalize mkS a1 = s1 at *
  generalize mkS a2 = s2 at *
  generalize mkS a3 = s3 at *
  generalize mkS r = s4 at *
  go_enter Tryd.func9, Tryd.ntmps9
  go_wp2_with fail
  refine (l2Cut_any s _ hs).mono ?_
  rintro e w1 ⟨v, ws, rfl, ⟨g, off, cap, rfl, _, _, hcell⟩, hws, hb1⟩
  obtain ⟨hlen, q0, q1, q2, q3⟩ := HWS.out ws hws
  have c0 := hcell 0 s0 q0
  have c1 := hcell 1 s1 q1
  have c2 := hcell 2 s2 q2
  have c3 := hcell 3 s3 q3
  clear hws hcell q0 q1 q2 q3 HWS
  generalize ws.length = n at *
  have hrow : w1.heap[w.heap.size]? = some (.cells #[.string ⟨#[]⟩, .int .i64 0, .int .i64 0, .string ⟨#[]⟩] 26) := by
    rw [hb1.block _ (by simp)]
    show (w.heap.push _)[w.heap.size]? = _
    simp
  have hgl : w.heap.size < w1.heap.size := Nat.lt_of_lt_of_le (by simp) hb1.size
  have HB1 : Hid (Below w.heap.size w w1) := below_step ((Below.refl _ _).alloc (Nat.le_refl _) _) hb1
  have n5 : ¬ ((n : Nat) : Int) < 5 := by omega
  have n0 : (0 : Int) < n := by omega
  have n1 : (1 : Int) < n := by omega
  have n2 : (2 : Int) < n := by omega
  have n3 : (3 : Int) < n := by omega
  clear hb1
  go_wp2
  have hgw : g < w1.heap.size := lt_of_cell c0
  apply wp_join (RdAt w g off w1.heap.size s0 s1 s2 s3 #[.string s1, .int .i64 0, .int .i64 (numR s3), .string ⟨#[]⟩])
  · refine wp_region_noPanic ?_
    refine wp_region_held_drew (S := fun w' => w'.cell? ⟨g, off + 1, none⟩ = some (.string s1) ∧ w'.cell? ⟨g, off + 3, none⟩ = some (.string s3)) (by kernel_rfl) ?_ (fun hHeld => ?_)
    · exact ⟨by simpa using c1, by simpa using c3⟩
    refine wpAnyH_take (i := 0) (v := ?_) rfl (by kernel_rfl) (by kernel_rfl) (by kernel_rfl) (fun _ _ _ h => h) (Or.inl ⟨by rfl, ?_⟩) (by assumption) ?_
    rotate_left
    · intro w hSw; (try dsimp only at hSw); go_simp; try with_reducible rfl
    simp only [Act.put, List.setIfInBounds_toArray, List.set_cons_zero, List.set_cons_succ, List.getElem_toArray, List.getElem_cons_succ, List.getElem_cons_zero]
    refine wpAnyH_take (i := 1) (v := ?_) rfl (by kernel_rfl) (by kernel_rfl) (by kernel_rfl) (fun _ _ _ h => h) (Or.inl ⟨by rfl, ?_⟩) (by assumption) ?_
    rotate_left
    · intro w hSw; (try dsimp only at hSw); go_simp; try with_reducible rfl
    simp only [Act.put, List.setIfInBounds_toArray, List.set_cons_zero, List.set_cons_succ, List.getElem_toArray, List.getElem_cons_succ, List.getElem_cons_zero]
    refine wpAnyH_take (i := 2) (v := ?_) rfl (by kernel_rfl) (by kernel_rfl) (by kernel_rfl) (fun _ _ _ h => h) (Or.inl ⟨by rfl, ?_⟩) (by assumption) ?_
    rotate_left
    · intro w hSw; (try dsimp only at hSw); go_simp; try with_reducible rfl
    simp only [Act.put, List.setIfInBounds_toArray, List.set_cons_zero, List.set_cons_succ, List.getElem_toArray, List.getElem_cons_succ, List.getElem_cons_zero]
    refine wpAnyH_take (i := 3) (v := ?_) rfl (by kernel_rfl) (by kernel_rfl) (by kernel_rfl) (fun _ _ _ h => h) (Or.inl ⟨by rfl, ?_⟩) (by assumption) ?_
    rotate_left
    · intro w hSw; (try dsimp only at hSw); go_simp; try with_reducible rfl
    simp only [Act.put, List.setIfInBounds_toArray, List.set_cons_zero, List.set_cons_succ, List.getElem_toArray, List.getElem_cons_succ, List.getElem_cons_zero]
    refine wpAnyH_take (i := 4) (v := ?_) rfl (by kernel_rfl) (by kernel_rfl) (by kernel_rfl) (fun _ _ _ h => h) (Or.inl ⟨by rfl, ?_⟩) (by assumption) ?_
    rotate_left
    · intro w hSw; (try dsimp only at hSw); go_simp; try with_reducible rfl
    simp only [Act.put, List.setIfInBounds_toArray, List.set_cons_zero, List.set_cons_succ, List.getElem_toArray, List.getElem_cons_succ, List.getElem_cons_zero]
    refine wpAnyH_take (i := 5) (v := ?_) rfl (by kernel_rfl) (by kernel_rfl) (by kernel_rfl) (fun _ _ _ h => h) (Or.inl ⟨by rfl, ?_⟩) (by assumption) ?_
    rotate_left
    · intro w hSw; (try dsimp only at hSw); go_simp; try with_reducible rfl
    simp only [Act.put, List.setIfInBounds_toArray, List.set_cons_zero, List.set_cons_succ, List.getElem_toArray, List.getElem_cons_succ, List.getElem_cons_zero]
    have hHeldA : (w1.drew.alloc (.cells #[.string ⟨#[]⟩, .int .i64 0, .int .i64 0, .string ⟨#[]⟩] 26)).cell? ⟨g, off + 1, none⟩ = some (.string s1) ∧ (w1.drew.alloc (.cells #[.string ⟨#[]⟩, .int .i64 0, .int .i64 0, .string ⟨#[]⟩] 26)).cell? ⟨g, off + 3, none⟩ = some (.string s3) :=
      ⟨cell_keep ((Below.refl _ _).alloc (Nat.le_refl _) _) (Nat.le_refl _) hHeld.1, cell_keep ((Below.refl _ _).alloc (Nat.le_refl _) _) (Nat.le_refl _) hHeld.2⟩
    have hrowA : (w1.drew.alloc (.cells #[.string ⟨#[]⟩, .int .i64 0, .int .i64 0, .string ⟨#[]⟩] 26)).heap[w1.heap.size]? = some (.cells #[.string ⟨#[]⟩, .int .i64 0, .int .i64 0, .string ⟨#[]⟩] 26) := by
      show (w1.heap.push _)[w1.heap.size]? = _
      simp
    have hRA : RdAt w g off w1.heap.size s0 s1 s2 s3 #[.string ⟨#[]⟩, .int .i64 0, .int .i64 0, .string ⟨#[]⟩] (w1.drew.alloc (.cells #[.string ⟨#[]⟩, .int .i64 0, .int .i64 0, .string ⟨#[]⟩] 26)) := by
      have hbA : Below w1.heap.size w1 (w1.drew.alloc (.cells #[.string ⟨#[]⟩, .int .i64 0, .int .i64 0, .string ⟨#[]⟩] 26)) := (Below.refl _ _).drew.alloc (Nat.le_refl _) _
      exact ⟨by omega, hgl, cell_keep hbA (Nat.le_refl _) c0, cell_keep hbA (Nat.le_refl _) c1, cell_keep hbA (Nat.le_refl _) c2, cell_keep hbA (Nat.le_refl _) c3, by rw [hbA.block _ hgl]; exact hrow, hrowA, below_step HB1.out hbA⟩
    have hRB := hRA.set #[.string s1, .int .i64 0, .int .i64 (numR s3), .string ⟨#[]⟩]
    refine wpAnyH_ready (rs := [6, 8]) (by kernel_rfl) (by simp) ?_
    refine AllReadyH.cons rfl (fun K hK => ?_) (AllReadyH.cons rfl (fun K hK => ?_) AllReadyH.nil)
    · go_simp
      refine (num_any s3 _ z3).mono ?_
      rintro e w2 ⟨rfl, rfl⟩
      refine hK.out _ _ hHeld (fun _ => ?_)
      clear hK K
      refine wpAnyH_take (i := 7) (v := ?_) rfl (by kernel_rfl) (by kernel_rfl) (by kernel_rfl) (fun _ _ _ h => h) (Or.inl ⟨by rfl, ?_⟩) (by assumption) ?_
      rotate_left
      · intro w hSw; (try dsimp only at hSw); go_simp; try with_reducible rfl
      simp only [Act.put, List.setIfInBounds_toArray, List.set_cons_zero, List.set_cons_succ, List.getElem_toArray, List.getElem_cons_succ, List.getElem_cons_zero]
      refine wpAnyH_ready (rs := [8]) (by kernel_rfl) (by simp) ?_
      refine AllReadyH.cons rfl (fun K hK => ?_) AllReadyH.nil
      go_simp
      refine hK.out _ _ hHeldA (fun _ => ?_)
      clear hK K
      refine wpAnyH_ready (rs := [9]) (by kernel_rfl) (by simp) ?_
      refine AllReadyH.cons rfl (fun K hK => ?_) AllReadyH.nil
      refine wp_store_row 26 _ _ rfl w1.heap.size #[.string s1, .int .i64 0, .int .i64 (numR s3), .string ⟨#[]⟩] rfl rfl 26 _ hrowA (by kernel_rfl) rfl (chg_one _ _ _ _) ?_
      refine hK.out _ _ ⟨hRB.c1, hRB.c3⟩ (fun _ => ?_)
      clear hK K
      refine wpAnyH_done (by kernel_rfl) ?_ _
      refine NoPanic.normal ?_
      refine ⟨rfl, ?_, hRB⟩
      simp only [Act.put, List.getElem_toArray, List.getElem_cons_succ, List.getElem_cons_zero]
      all_goals rfl
    · go_simp
      refine hK.out _ _ hHeldA (fun _ => ?_)
      clear hK K
      refine wpAnyH_ready (rs := [6]) (by kernel_rfl) (by simp) ?_
      refine AllReadyH.cons rfl (fun K hK => ?_) AllReadyH.nil
      go_simp
      refine (num_any s3 _ z3).mono ?_
      rintro e w2 ⟨rfl, rfl⟩
      refine hK.out _ _ hHeldA (fun _ => ?_)
      clear hK K
      refine wpAnyH_take (i := 7) (v := ?_) rfl (by kernel_rfl) (by kernel_rfl) (by kernel_rfl) (fun _ _ _ h => h) (Or.inl ⟨by rfl, ?_⟩) (by assumption) ?_
      rotate_left
      · intro w hSw; (try dsimp only at hSw); go_simp; try with_reducible rfl
      simp only [Act.put, List.setIfInBounds_toArray, List.set_cons_zero, List.set_cons_succ, List.getElem_toArray, List.getElem_cons_succ, List.getElem_cons_zero]
      refine wpAnyH_ready (rs := [9]) (by kernel_rfl) (by simp) ?_
      refine AllReadyH.cons rfl (fun K hK => ?_) AllReadyH.nil
      refine wp_store_row 26 _ _ rfl w1.heap.size #[.string s1, .int .i64 0, .int .i64 (numR s3), .string ⟨#[]⟩] rfl rfl 26 _ hrowA (by kernel_rfl) rfl (chg_one _ _ _ _) ?_
      refine hK.out _ _ ⟨hRB.c1, hRB.c3⟩ (fun _ => ?_)
      clear hK K
      refine wpAnyH_done (by kernel_rfl) ?_ _
      refine NoPanic.normal ?_
      refine ⟨rfl, ?_, hRB⟩
      simp only [Act.put, List.getElem_toArray, List.getElem_cons_succ, List.getElem_cons_zero]
      all_goals rfl
  · intro z hR
    clear c0 c1 c2 c3 hrow HB1
    generalize w1.heap.size = C at *
    have HR0 : Hid (RdAt w g off C s0 s1 s2 s3 #[.string s1, .int .i64 (whatTo 0 s2), .int .i64 (numR s3), .string ⟨#[]⟩] z) := hR
    clear hR hgw
    go_wp2
    go_loopw [6] (fun i wr => ∃ k : Nat, k ≤ 5 ∧ i = .int .i64 k ∧ Hid (RdAt w g off C s0 s1 s2 s3 #[.string s1, .int .i64 (whatTo k s2), .int .i64 (numR s3), .string ⟨#[]⟩] wr)) (fun i _ => 5 - (intOf i).toNat)
    case atStart => exact ⟨0, Nat.zero_le _, rfl, HR0⟩
    case round =>
      obtain ⟨k, hk, rfl, HR⟩ := hrel
      clear HR0
      by_cases hlt : k < 5
      · have hk5 : (k : Int) < 5 := by omega
        go_wp2_with fail
        refine (l2Words_any _).mono ?_
        rintro e w2 ⟨rfl, hw2⟩
        have HR2 : Hid (RdAt w g off C s0 s1 s2 s3 #[.string s1, .int .i64 (whatTo k s2), .int .i64 (numR s3), .string ⟨#[]⟩] w2) := HR.out.step (by rw [hw2]; exact (Below.refl _ _).alloc (Nat.le_refl _) _)
        clear hw2 HR
        have c2 := HR2.out.c2
        have hb2l : ∀ w3 : World, w3 = w2.drew.alloc (.cells #[.string wKind, .string wTime, .string wLevel, .string wRoute, .string wState] 9) → Below w2.heap.size w2 w3 := by
          rintro w3 rfl
          exact (Below.refl _ _).drew.alloc (Nat.le_refl _) _
        have HL : Hid (∀ w3 : World, w3 = w2.drew.alloc (.cells #[.string wKind, .string wTime, .string wLevel, .string wRoute, .string wState] 9) → Below w2.heap.size w2 w3) := hb2l
        clear hb2l
        have hk0 : (0 : Int) ≤ (k : Int) := by omega
        go_wp2
        apply wp_join (fun w3 => RdAt w g off C s0 s1 s2 s3 #[.string s1, .int .i64 (whatTo k s2), .int .i64 (numR s3), .string ⟨#[]⟩] w3)
        · refine wp_region_noPanic ?_
          refine wp_region_held_drew (S := fun w' => w'.cell? ⟨g, off + 2, none⟩ = some (.string s2)) (by kernel_rfl) (by simpa using c2) (fun hHeld => ?_)
          refine wpAnyH_take (i := 1) (v := ?_) rfl (by kernel_rfl) (by kernel_rfl) (by kernel_rfl) (fun _ _ _ h => h) (Or.inl ⟨by rfl, ?_⟩) (by assumption) ?_
          rotate_left
          · intro w hSw; (try dsimp only at hSw); go_simp; try with_reducible rfl
          simp only [Act.put, List.setIfInBounds_toArray, List.set_cons_zero, List.set_cons_succ, List.getElem_toArray, List.getElem_cons_succ, List.getElem_cons_zero]
          refine wpAnyH_take (i := 4) (v := ?_) rfl (by kernel_rfl) (by kernel_rfl) (by kernel_rfl) (fun _ _ _ h => h) (Or.inl ⟨by rfl, ?_⟩) (by assumption) ?_
          rotate_left
          · intro w hSw; (try dsimp only at hSw); go_simp; try with_reducible rfl
          simp only [Act.put, List.setIfInBounds_toArray, List.set_cons_zero, List.set_cons_succ, List.getElem_toArray, List.getElem_cons_succ, List.getElem_cons_zero]
          refine wpAnyH_take (i := 5) (v := ?_) rfl (by kernel_rfl) (by kernel_rfl) (by kernel_rfl) (fun _ _ _ h => h) (Or.inl ⟨by rfl, ?_⟩) (by assumption) ?_
          rotate_left
          · intro w hSw; (try dsimp only at hSw); go_simp; try with_reducible rfl
          simp only [Act.put, List.setIfInBounds_toArray, List.set_cons_zero, List.set_cons_succ, List.getElem_toArray, List.getElem_cons_succ, List.getElem_cons_zero]
          refine wpAnyH_take (i := 6) (v := ?_) rfl (by kernel_rfl) (by kernel_rfl) (by kernel_rfl) (fun _ _ _ h => h) (Or.inl ⟨by rfl, ?_⟩) (by assumption) ?_
          rotate_left
          · intro w hSw; (try dsimp only at hSw); go_simp; try with_reducible rfl
          simp only [Act.put, List.setIfInBounds_toArray, List.set_cons_zero, List.set_cons_succ, List.getElem_toArray, List.getElem_cons_succ, List.getElem_cons_zero]
          refine wpAnyH_ready (rs := [0]) (by kernel_rfl) (by simp) ?_
          refine AllReadyH.cons rfl (fun K hK => ?_) AllReadyH.nil
          go_simp
          refine (l2Words_any _).mono ?_
          rintro e w3 ⟨rfl, hw3⟩
          have hb3 : Below w2.heap.size w2 w3 := HL.out w3 hw3
          have t0 : w3.cell? ⟨w2.heap.size, k, none⟩ = some (.string (wordAt k)) := by
            rw [hw3]
            have h5 : k = 0 ∨ k = 1 ∨ k = 2 ∨ k = 3 ∨ k = 4 := by omega
            rcases h5 with rfl | rfl | rfl | rfl | rfl <;> simp [go_sem, wordAt]
          clear hw3
          have HR3 := HR2.out.step hb3
          have d2 := HR3.c2
          refine hK.out _ _ d2 (fun _ => ?_)
          refine wpAnyH_more (T := fun w' => w'.cell? ⟨g, off + 2, none⟩ = some (.string s2) ∧ w'.cell? ⟨w2.heap.size, k, none⟩ = some (.string (wordAt k))) (fun _ h => h.1) _ _ _ _ ?_
          have hHeld1 := And.intro d2 t0
          clear hK K
          refine wpAnyH_take (i := 2) (v := ?_) rfl (by kernel_rfl) (by kernel_rfl) (by kernel_rfl) (fun _ _ _ h => h) (Or.inl ⟨by rfl, ?_⟩) (by assumption) ?_
          rotate_left
          · intro w hSw; (try dsimp only at hSw); go_simp; try with_reducible rfl
          simp only [Act.put, List.setIfInBounds_toArray, List.set_cons_zero, List.set_cons_succ, List.getElem_toArray, List.getElem_cons_succ, List.getElem_cons_zero]
          refine wpAnyH_take (i := 3) (v := ?_) rfl (by kernel_rfl) (by kernel_rfl) (by kernel_rfl) (fun _ _ _ h => h) (Or.inl ⟨by rfl, ?_⟩) (by assumption) ?_
          rotate_left
          · intro w hSw; (try dsimp only at hSw); go_simp; try with_reducible rfl
          simp only [Act.put, List.setIfInBounds_toArray, List.set_cons_zero, List.set_cons_succ, List.getElem_toArray, List.getElem_cons_succ, List.getElem_cons_zero]
          refine wpAnyH_take (i := 7) (v := ?_) rfl (by kernel_rfl) (by kernel_rfl) (by kernel_rfl) (fun _ _ _ h => h) (Or.inl ⟨by rfl, ?_⟩) (by assumption) ?_
          rotate_left
          · intro w hSw; (try dsimp only at hSw); go_simp; try with_reducible rfl
          simp only [Act.put, List.setIfInBounds_toArray, List.set_cons_zero, List.set_cons_succ, List.getElem_toArray, List.getElem_cons_succ, List.getElem_cons_zero]
          refine wpAnyH_done (by kernel_rfl) ?_ _
          refine NoPanic.normal ?_
          exact ⟨rfl, rfl, HR3⟩
        · intro w3 hR3
          clear c2 HR2 HL
          have HR3 : Hid (RdAt w g off C s0 s1 s2 s3 #[.string s1, .int .i64 (whatTo k s2), .int .i64 (numR s3), .string ⟨#[]⟩] w3) := hR3
          by_cases hw : wordAt k = s2
          · have h1 : ((wordAt k).toList == s2.toList) = true := strR_eq hw
            have HW : Hid (whatTo (k + 1) s2 = (k : Int) + 1) := if_pos hw
            have x0 : w3.cell? ⟨C, 0, none⟩ = some (.string s1) := hR3.cell 0
            have x1 : w3.cell? ⟨C, 1, none⟩ = some (.int .i64 (whatTo k s2)) := hR3.cell 1
            have x2 : w3.frozen? ⟨C, 1, none⟩ = false := hR3.open 1
            clear hw hR3
            rw [h1]
            go_wp2
            refine ⟨⟨k + 1, by omega, by go_num, ?_⟩, by simp [intOf]; omega⟩
            rw [HW.out, setCell_eq_setRow _ _ _ _ _ _ _ HR3.out.rowC]
            exact HR3.out.set _
          · have h1 : ((wordAt k).toList == s2.toList) = false := strR_ne hw
            have HW : Hid (whatTo (k + 1) s2 = whatTo k s2) := if_neg hw
            clear hw hR3
            rw [h1]
            go_wp2
            exact ⟨⟨k + 1, by omega, by go_num, by rw [HW.out]; exact HR3⟩, by simp [intOf]; omega⟩
      · have HK : Hid (k = 5) := by show k = 5; omega
        have hk5 : ¬ (k : Int) < 5 := by omega
        go_wp2_with fail
        refine (l2Words_any _).mono ?_
        rintro e w2 ⟨rfl, hw2⟩
        have HR2 : Hid (RdAt w g off C s0 s1 s2 s3 #[.string s1, .int .i64 (whatTo k s2), .int .i64 (numR s3), .string ⟨#[]⟩] w2) := HR.out.step (by rw [hw2]; exact (Below.refl _ _).alloc (Nat.le_refl _) _)
        clear hw2 HR
        rw [HK.out, whatTo_five] at HR2
        have c0 := HR2.out.c0
        have c1 := HR2.out.c1
        have c2 := HR2.out.c2
        have c3 := HR2.out.c3
        have v1 : IntKind.i64.wrap ((s0.size : Int) + (s1.size : Int)) = (s0.size : Int) + (s1.size : Int) := by rw [IntKind.wrap_i64]; omega
        have v2 : IntKind.i64.wrap ((s0.size : Int) + (s1.size : Int) + (s2.size : Int)) = (s0.size : Int) + (s1.size : Int) + (s2.size : Int) := by rw [IntKind.wrap_i64]; omega
        have v3 : IntKind.i64.wrap ((s0.size : Int) + (s1.size : Int) + (s2.size : Int) + (s3.size : Int)) = (s0.size : Int) + (s1.size : Int) + (s2.size : Int) + (s3.size : Int) := by rw [IntKind.wrap_i64]; omega
        have v4 : IntKind.i64.wrap ((s0.size : Int) + (s1.size : Int) + (s2.size : Int) + (s3.size : Int) + 4) = (s0.size : Int) + (s1.size : Int) + (s2.size : Int) + (s3.size : Int) + 4 := by rw [IntKind.wrap_i64]; omega
        go_wp2
        go_quiet (fail)
        have HR3 : Hid (RdAt w g off C s0 s1 s2 s3 #[.string s1, .int .i64 (whatI s2), .int .i64 (numR s3), .string ⟨#[]⟩] (w2.drewN nq)) := HR2.out.step (below_drewN (Below.refl _ _) _)
        clear c0 c1 c2 c3 v1 v2 v3 v4 HR2
        generalize w2.drewN nq = w3 at HR3 ⊢
        obtain ⟨m, hm⟩ : ∃ m : Nat, m = s0.size + s1.size + s2.size + s3.size + 4 := ⟨_, rfl⟩
        have hcast : ((s0.size : Int) + (s1.size : Int) + (s2.size : Int) + (s3.size : Int) + 4) = (m : Int) := by omega
        rw [hcast]
        rw [← hm] at HX hsz
        have hX : s.extract m s.size = s4 := HX.out
        have HM : Hid (m = s0.size + s1.size + s2.size + s3.size + 4) := hm
        clear hm hcast HX
        have x0 : w3.cell? ⟨C, 0, none⟩ = some (.string s1) := HR3.out.cell 0
        have x1 : w3.cell? ⟨C, 1, none⟩ = some (.int .i64 (whatI s2)) := HR3.out.cell 1
        have x2 : w3.cell? ⟨C, 2, none⟩ = some (.int .i64 (numR s3)) := HR3.out.cell 2
        have x3 : w3.cell? ⟨C, 3, none⟩ = some (.string ⟨#[]⟩) := HR3.out.cell 3
        have x4 : w3.frozen? ⟨C, 3, none⟩ = false := HR3.out.open 3
        have HR4 : Hid (RdAt w g off C s0 s1 s2 s3 #[.string s1, .int .i64 (whatI s2), .int .i64 (numR s3), .string s4] (w3.setCell ⟨C, 3, none⟩ (.string s4))) := by
          show RdAt _ _ _ _ _ _ _ _ _ _
          rw [setCell_eq_setRow _ _ _ _ _ _ _ HR3.out.rowC]
          exact HR3.out.set _
        have hrow4 := HR4.out.rowC
        go_wp2_with (refine wpList_load_row rfl 26 _ rfl C rfl 26 _ _ _ hrow4 Tryd.underlying26 rfl (by kernel_rfl) ?_)
        refine (specForm_any ⟨s1, whatI s2, numR s3, s4⟩ _ z1 z4).mono ?_
        rintro e w4 ⟨rfl, hb4⟩
        have HR5 : Hid (RdAt w g off C s0 s1 s2 s3 #[.string s1, .int .i64 (whatI s2), .int .i64 (numR s3), .string s4] w4) := HR4.out.step hb4
        have hrowB := HR5.out.rowB
        have hrowC := HR5.out.rowC
        clear HR3 HR4 hrow4 hb4 x0 x1 x2 x3 x4 hX HM
        cases okb
        · have h1 : ((theForm ⟨s1, whatI s2, numR s3, s4⟩).toList == s.toList) = false := strR_ne fun e => by cases HFI.out.1 e
          go_wp2_with (refine wpList_store_row rfl 26 _ _ rfl w.heap.size #[.string ⟨#[]⟩, .int .i64 0, .int .i64 0, .string ⟨#[]⟩] rfl rfl 26 _ hrowB (by kernel_rfl) rfl (chg_one _ _ _ _) ?_)
          exact bodyPost_ret (v := readV false noChg) (by simp [results, Tryd.results9, go_sem, readV, chgV, noChg, cell_setRow_same _ _ _ _ _ _ _ hrowB]) rfl ⟨rfl, below_setRow HR5.out.bel (Nat.le_refl _) _⟩
        · have h1 : ((theForm ⟨s1, whatI s2, numR s3, s4⟩).toList == s.toList) = true := strR_eq (HFI.out.2 rfl)
          go_wp2_with (first | refine wpList_load_row rfl 26 _ rfl C rfl 26 _ _ _ hrowC Tryd.underlying26 rfl (by kernel_rfl) ?_ | refine wpList_store_row rfl 26 _ _ rfl w.heap.size #[.string s1, .int .i64 (whatI s2), .int .i64 (numR s3), .string s4] rfl rfl 26 _ hrowB (by kernel_rfl) rfl (chg_one _ _ _ _) ?_)
          exact bodyPost_ret (v := readV true ⟨s1, whatI s2, numR s3, s4⟩) (by simp [results, Tryd.results9, go_sem, readV, chgV, cell_setRow_same _ _ _ _ _ _ _ hrowB]) rfl ⟨rfl, below_setRow HR5.out.bel (Nat.le_refl _) _⟩
end Go.Proofs.YtfjblenkcfdbiaaDoor
