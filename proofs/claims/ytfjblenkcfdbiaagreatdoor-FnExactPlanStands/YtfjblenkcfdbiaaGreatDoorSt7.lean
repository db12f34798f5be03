/-
  Joined: St6, St7.
-/
import Derived.Test.YtfjblenkcfdbiaaGreatDoorSt5
set_option linter.unusedSimpArgs false
set_option linter.unusedVariables false

namespace Go.Proofs.YtfjblenkcfdbiaaGreatDoor.Sd
open Go.RowKit Go.Proofs.YtfjblenkcfdbiaaGreatDoor

def needC : Array Value := #[.int .i64 1, .int .i64 2, .int .i64 3, .int .i64 4]
/-- The table of what is needed, as the program's text lays it. -/
def NeedIn (w : World) : Prop := ∃ t fr, w.heap[1]? = some (.cells needC t fr)
theorem NeedIn.lt {w : World} (h : NeedIn w) : 1 < w.heap.size := by
  obtain ⟨t, fr, h⟩ := h
  exact (Array.getElem?_eq_some_iff.1 h).1
theorem NeedIn.keep {w w' : World} (h : NeedIn w) (hb : Below w.heap.size w w') : NeedIn w' := by
  have hl := h.lt
  obtain ⟨t, fr, h⟩ := h
  exact ⟨t, fr, (hb.block _ hl).trans h⟩
theorem NeedIn.cells {w : World} (h : NeedIn w) : (w.cell? ⟨1, 0, none⟩ = some (.int .i64 1) ∧ w.cell? ⟨1, 1, none⟩ = some (.int .i64 2)) ∧ w.cell? ⟨1, 2, none⟩ = some (.int .i64 3) ∧ w.cell? ⟨1, 3, none⟩ = some (.int .i64 4) := by
  obtain ⟨t, fr, h⟩ := h
  refine ⟨⟨?_, ?_⟩, ?_, ?_⟩ <;> simp [World.cell?, h, needC]
/-- What of the first k is missing. -/
def needL (fs : List Fld) (k : Nat) : List Int := (([1, 2, 3, 4] : List Int).take k).filter fun x => !saidB fs x
theorem needL_len (fs : List Fld) (k : Nat) : (needL fs k).length ≤ 4 := by
  unfold needL
  exact Nat.le_trans (List.length_filter_le _ _) (by rw [List.length_take]; simp; omega)
theorem need0_yes {fs : List Fld} (h : saidB fs 1 = true) : needL fs 1 = needL fs 0 := by
  cases h1 : saidB fs 1 <;> cases h2 : saidB fs 2 <;> cases h3 : saidB fs 3 <;> simp_all [needL, List.filter]
theorem need0_no {fs : List Fld} (h : saidB fs 1 = false) : needL fs 1 = needL fs 0 ++ [1] := by
  cases h1 : saidB fs 1 <;> cases h2 : saidB fs 2 <;> cases h3 : saidB fs 3 <;> simp_all [needL, List.filter]
theorem need1_yes {fs : List Fld} (h : saidB fs 2 = true) : needL fs 2 = needL fs 1 := by
  cases h1 : saidB fs 1 <;> cases h2 : saidB fs 2 <;> cases h3 : saidB fs 3 <;> simp_all [needL, List.filter]
theorem need1_no {fs : List Fld} (h : saidB fs 2 = false) : needL fs 2 = needL fs 1 ++ [2] := by
  cases h1 : saidB fs 1 <;> cases h2 : saidB fs 2 <;> cases h3 : saidB fs 3 <;> simp_all [needL, List.filter]
theorem need2_yes {fs : List Fld} (h : saidB fs 3 = true) : needL fs 3 = needL fs 2 := by
  cases h1 : saidB fs 1 <;> cases h2 : saidB fs 2 <;> cases h3 : saidB fs 3 <;> simp_all [needL, List.filter]
theorem need2_no {fs : List Fld} (h : saidB fs 3 = false) : needL fs 3 = needL fs 2 ++ [3] := by
  cases h1 : saidB fs 1 <;> cases h2 : saidB fs 2 <;> cases h3 : saidB fs 3 <;> simp_all [needL, List.filter]
theorem need3_yes {fs : List Fld} (h : saidB fs 4 = true) : needL fs 4 = needL fs 3 := by
  cases h1 : saidB fs 1 <;> cases h2 : saidB fs 2 <;> cases h3 : saidB fs 3 <;> simp_all [needL, List.filter]
theorem need3_no {fs : List Fld} (h : saidB fs 4 = false) : needL fs 4 = needL fs 3 ++ [4] := by
  cases h1 : saidB fs 1 <;> cases h2 : saidB fs 2 <;> cases h3 : saidB fs 3 <;> simp_all [needL, List.filter]
theorem nidx0 (w : World) : (Instr.index 159 (.agg #[.int .i64 1, .int .i64 2, .int .i64 3, .int .i64 4]) (.int .i64 0)).run Tryz.prog w = .ok (.int .i64 1) w := by kernel_rfl
theorem nidx1 (w : World) : (Instr.index 159 (.agg #[.int .i64 1, .int .i64 2, .int .i64 3, .int .i64 4]) (.int .i64 1)).run Tryz.prog w = .ok (.int .i64 2) w := by kernel_rfl
theorem nidx2 (w : World) : (Instr.index 159 (.agg #[.int .i64 1, .int .i64 2, .int .i64 3, .int .i64 4]) (.int .i64 2)).run Tryz.prog w = .ok (.int .i64 3) w := by kernel_rfl
theorem nidx3 (w : World) : (Instr.index 159 (.agg #[.int .i64 1, .int .i64 2, .int .i64 3, .int .i64 4]) (.int .i64 3)).run Tryz.prog w = .ok (.int .i64 4) w := by kernel_rfl
set_option maxRecDepth 100000 in
set_option maxHeartbeats 6400000 in
theorem missing_any (D B : Nat) (v nm : Value) (ks ps : List Tri) (fs : List Fld) (w : World) (hD : w.heap[D]? = some (.cells #[v, nm] 124 (0, 0))) (hP : PartsNew w B v ks fs) (hfit : ∀ f ∈ fs, valB2 ks ps f.what f.v = true) (hN : NeedIn w) :
    Calls Tryz.prog 72 #[.pointer (some ⟨D, 0, none⟩)] w fun e w' => ∃ u, e = .returned u ∧ Lv.INew w' w.heap.size u (needL fs 4) ∧ Below w.heap.size w w' := by
  obtain ⟨i0, hi0, hz0, hz1, hz2⟩ := info_parts Lv.infoInt
  have HH : Hid (∀ (what : Int) (wx : World), Below w.heap.size w wx → Calls Tryz.prog 99 #[.pointer (some ⟨D, 0, none⟩), .int .i64 what] wx fun e w' => e = .returned (.bool (saidB fs what)) ∧ Below wx.heap.size wx w') := fun what wx hx => has_any D B v nm ks ps fs what wx (below_block hx hD) (hP.keep hx) hfit
  obtain ⟨⟨n0, n1⟩, n2, n3⟩ := hN.cells
  clear hD hP hfit
  go_enter Tryz.func72, Tryz.ntmps72
  go_wp2_with fail
  clear n0 n1 n2 n3
  go_loopw [3, 7] (fun v i wr => ∃ k : Nat, k ≤ 4 ∧ i = .int .i64 k ∧ (∃ a c, v = .slice a (needL fs k).length c) ∧ Hid (Lv.INew wr w.heap.size v (needL fs k) ∧ Below w.heap.size w wr)) (fun _ i _ => 4 - (intOf i).toNat)
  case atStart => exact ⟨0, Nat.zero_le _, rfl, ⟨_, _, rfl⟩, ⟨rfl, .inl ⟨rfl, rfl⟩⟩, Below.refl _ _⟩
  case round =>
    obtain ⟨k, hk, rfl, ⟨a, c, rfl⟩, HI⟩ := hrel
    have hnl := needL_len fs k
    rcases (show k = 0 ∨ k = 1 ∨ k = 2 ∨ k = 3 ∨ k = 4 by omega) with rfl | rfl | rfl | rfl | rfl
    · have hix := nidx0
      cases hb : saidB fs 1
      · have HE : Hid (needL fs 1 = needL fs 0 ++ [1]) := need0_no hb
        have HS : Hid (saidB fs 1 = false) := hb
        clear hb
        generalize needL fs 0 = P at *
        go_wp2_with fail
        refine (HH.out 1 _ HI.out.2).mono ?_
        rw [HS.out]
        rintro e w2 ⟨rfl, hb2⟩
        have HI2 : Hid (Lv.INew w2 w.heap.size (.slice a P.length c) P ∧ Below w.heap.size w w2) := ⟨Lv.own_keep HI.out.1 hb2, below_step HI.out.2 hb2⟩
        clear HI hb2
        have hid := HI2.out.1
        unfold Lv.INew at hid
        have hsz := HI2.out.2.size
        go_wp2_with (at_builtin; refine wpList_append_any _ rfl _ _ 126 rfl w.heap.size 3 i0 _ 1 8 Tryz.underlying126 hi0 hz0 hz1 hz2 rfl (by decide) _ P.length _ rfl (Lv.own_keep hid ((Below.refl _ _).alloc (Nat.le_refl _) _)) _ 1 1 [.int .i64 1] rfl (.inr ⟨_, rfl, World.news_of_block (Lv.heap_newF w2 (.cells #[.int .i64 1] 3))⟩) rfl (fun u hu => by simp at hu; subst hu; rfl) (by unfold maxLen; omega) (by omega) (by simp; omega) ?_; intro vq wx hown hgrow hat)
        have hbw := below_step HI2.out.2 ((Below.refl _ _).alloc (Nat.le_refl _) (.cells #[.int .i64 1] 3))
        have HN : Hid (Lv.INew wx w.heap.size vq (needL fs 1) ∧ Below w.heap.size w wx) := by
          refine ⟨?_, hbw.grown hgrow hbw.size (fun q hq => Lv.own_ge hid q hq)⟩
          rw [HE.out]
          exact Lv.INew.snoc hown
        obtain ⟨qa, qc, rfl⟩ := Lv.own_slice hown
        have HL : Hid ((needL fs 1).length = P.length + 1) := by show _ = _; rw [HE.out]; simp
        refine ⟨⟨1, by omega, by first | rfl | go_num, ⟨qa, qc, ?_⟩, HN⟩, by simp [intOf]⟩
        rw [HL.out]
      · have HE : Hid (needL fs 1 = needL fs 0) := need0_yes hb
        have HS : Hid (saidB fs 1 = true) := hb
        clear hb
        go_wp2_with fail
        refine (HH.out 1 _ HI.out.2).mono ?_
        rw [HS.out]
        rintro e w2 ⟨rfl, hb2⟩
        have HI2 : Hid (Lv.INew w2 w.heap.size (.slice a (needL fs 1).length c) (needL fs 1) ∧ Below w.heap.size w w2) := by
          have h : Lv.INew w2 w.heap.size (.slice a (needL fs 0).length c) (needL fs 0) ∧ Below w.heap.size w w2 := ⟨Lv.own_keep HI.out.1 hb2, below_step HI.out.2 hb2⟩
          rw [HE.out]
          exact h
        clear HI hb2
        rw [← HE.out]
        go_wp2
        exact ⟨⟨1, by omega, by first | rfl | go_num, ⟨a, c, rfl⟩, HI2⟩, by simp [intOf]⟩
    · have hix := nidx1
      cases hb : saidB fs 2
      · have HE : Hid (needL fs 2 = needL fs 1 ++ [2]) := need1_no hb
        have HS : Hid (saidB fs 2 = false) := hb
        clear hb
        generalize needL fs 1 = P at *
        go_wp2_with fail
        refine (HH.out 2 _ HI.out.2).mono ?_
        rw [HS.out]
        rintro e w2 ⟨rfl, hb2⟩
        have HI2 : Hid (Lv.INew w2 w.heap.size (.slice a P.length c) P ∧ Below w.heap.size w w2) := ⟨Lv.own_keep HI.out.1 hb2, below_step HI.out.2 hb2⟩
        clear HI hb2
        have hid := HI2.out.1
        unfold Lv.INew at hid
        have hsz := HI2.out.2.size
        go_wp2_with (at_builtin; refine wpList_append_any _ rfl _ _ 126 rfl w.heap.size 3 i0 _ 1 8 Tryz.underlying126 hi0 hz0 hz1 hz2 rfl (by decide) _ P.length _ rfl (Lv.own_keep hid ((Below.refl _ _).alloc (Nat.le_refl _) _)) _ 1 1 [.int .i64 2] rfl (.inr ⟨_, rfl, World.news_of_block (Lv.heap_newF w2 (.cells #[.int .i64 2] 3))⟩) rfl (fun u hu => by simp at hu; subst hu; rfl) (by unfold maxLen; omega) (by omega) (by simp; omega) ?_; intro vq wx hown hgrow hat)
        have hbw := below_step HI2.out.2 ((Below.refl _ _).alloc (Nat.le_refl _) (.cells #[.int .i64 2] 3))
        have HN : Hid (Lv.INew wx w.heap.size vq (needL fs 2) ∧ Below w.heap.size w wx) := by
          refine ⟨?_, hbw.grown hgrow hbw.size (fun q hq => Lv.own_ge hid q hq)⟩
          rw [HE.out]
          exact Lv.INew.snoc hown
        obtain ⟨qa, qc, rfl⟩ := Lv.own_slice hown
        have HL : Hid ((needL fs 2).length = P.length + 1) := by show _ = _; rw [HE.out]; simp
        refine ⟨⟨2, by omega, by first | rfl | go_num, ⟨qa, qc, ?_⟩, HN⟩, by simp [intOf]⟩
        rw [HL.out]
      · have HE : Hid (needL fs 2 = needL fs 1) := need1_yes hb
        have HS : Hid (saidB fs 2 = true) := hb
        clear hb
        go_wp2_with fail
        refine (HH.out 2 _ HI.out.2).mono ?_
        rw [HS.out]
        rintro e w2 ⟨rfl, hb2⟩
        have HI2 : Hid (Lv.INew w2 w.heap.size (.slice a (needL fs 2).length c) (needL fs 2) ∧ Below w.heap.size w w2) := by
          have h : Lv.INew w2 w.heap.size (.slice a (needL fs 1).length c) (needL fs 1) ∧ Below w.heap.size w w2 := ⟨Lv.own_keep HI.out.1 hb2, below_step HI.out.2 hb2⟩
          rw [HE.out]
          exact h
        clear HI hb2
        rw [← HE.out]
        go_wp2
        exact ⟨⟨2, by omega, by first | rfl | go_num, ⟨a, c, rfl⟩, HI2⟩, by simp [intOf]⟩
    · have hix := nidx2
      cases hb : saidB fs 3
      · have HE : Hid (needL fs 3 = needL fs 2 ++ [3]) := need2_no hb
        have HS : Hid (saidB fs 3 = false) := hb
        clear hb
        generalize needL fs 2 = P at *
        go_wp2_with fail
        refine (HH.out 3 _ HI.out.2).mono ?_
        rw [HS.out]
        rintro e w2 ⟨rfl, hb2⟩
        have HI2 : Hid (Lv.INew w2 w.heap.size (.slice a P.length c) P ∧ Below w.heap.size w w2) := ⟨Lv.own_keep HI.out.1 hb2, below_step HI.out.2 hb2⟩
        clear HI hb2
        have hid := HI2.out.1
        unfold Lv.INew at hid
        have hsz := HI2.out.2.size
        go_wp2_with (at_builtin; refine wpList_append_any _ rfl _ _ 126 rfl w.heap.size 3 i0 _ 1 8 Tryz.underlying126 hi0 hz0 hz1 hz2 rfl (by decide) _ P.length _ rfl (Lv.own_keep hid ((Below.refl _ _).alloc (Nat.le_refl _) _)) _ 1 1 [.int .i64 3] rfl (.inr ⟨_, rfl, World.news_of_block (Lv.heap_newF w2 (.cells #[.int .i64 3] 3))⟩) rfl (fun u hu => by simp at hu; subst hu; rfl) (by unfold maxLen; omega) (by omega) (by simp; omega) ?_; intro vq wx hown hgrow hat)
        have hbw := below_step HI2.out.2 ((Below.refl _ _).alloc (Nat.le_refl _) (.cells #[.int .i64 3] 3))
        have HN : Hid (Lv.INew wx w.heap.size vq (needL fs 3) ∧ Below w.heap.size w wx) := by
          refine ⟨?_, hbw.grown hgrow hbw.size (fun q hq => Lv.own_ge hid q hq)⟩
          rw [HE.out]
          exact Lv.INew.snoc hown
        obtain ⟨qa, qc, rfl⟩ := Lv.own_slice hown
        have HL : Hid ((needL fs 3).length = P.length + 1) := by show _ = _; rw [HE.out]; simp
        refine ⟨⟨3, by omega, by first | rfl | go_num, ⟨qa, qc, ?_⟩, HN⟩, by simp [intOf]⟩
        rw [HL.out]
      · have HE : Hid (needL fs 3 = needL fs 2) := need2_yes hb
        have HS : Hid (saidB fs 3 = true) := hb
        clear hb
        go_wp2_with fail
        refine (HH.out 3 _ HI.out.2).mono ?_
        rw [HS.out]
        rintro e w2 ⟨rfl, hb2⟩
        have HI2 : Hid (Lv.INew w2 w.heap.size (.slice a (needL fs 3).length c) (needL fs 3) ∧ Below w.heap.size w w2) := by
          have h : Lv.INew w2 w.heap.size (.slice a (needL fs 2).length c) (needL fs 2) ∧ Below w.heap.size w w2 := ⟨Lv.own_keep HI.out.1 hb2, below_step HI.out.2 hb2⟩
          rw [HE.out]
          exact h
        clear HI hb2
        rw [← HE.out]
        go_wp2
        exact ⟨⟨3, by omega, by first | rfl | go_num, ⟨a, c, rfl⟩, HI2⟩, by simp [intOf]⟩
    · have hix := nidx3
      cases hb : saidB fs 4
      · have HE : Hid (needL fs 4 = needL fs 3 ++ [4]) := need3_no hb
        have HS : Hid (saidB fs 4 = false) := hb
        clear hb
        generalize needL fs 3 = P at *
        go_wp2_with fail
        refine (HH.out 4 _ HI.out.2).mono ?_
        rw [HS.out]
        rintro e w2 ⟨rfl, hb2⟩
        have HI2 : Hid (Lv.INew w2 w.heap.size (.slice a P.length c) P ∧ Below w.heap.size w w2) := ⟨Lv.own_keep HI.out.1 hb2, below_step HI.out.2 hb2⟩
        clear HI hb2
        have hid := HI2.out.1
        unfold Lv.INew at hid
        have hsz := HI2.out.2.size
        go_wp2_with (at_builtin; refine wpList_append_any _ rfl _ _ 126 rfl w.heap.size 3 i0 _ 1 8 Tryz.underlying126 hi0 hz0 hz1 hz2 rfl (by decide) _ P.length _ rfl (Lv.own_keep hid ((Below.refl _ _).alloc (Nat.le_refl _) _)) _ 1 1 [.int .i64 4] rfl (.inr ⟨_, rfl, World.news_of_block (Lv.heap_newF w2 (.cells #[.int .i64 4] 3))⟩) rfl (fun u hu => by simp at hu; subst hu; rfl) (by unfold maxLen; omega) (by omega) (by simp; omega) ?_; intro vq wx hown hgrow hat)
        have hbw := below_step HI2.out.2 ((Below.refl _ _).alloc (Nat.le_refl _) (.cells #[.int .i64 4] 3))
        have HN : Hid (Lv.INew wx w.heap.size vq (needL fs 4) ∧ Below w.heap.size w wx) := by
          refine ⟨?_, hbw.grown hgrow hbw.size (fun q hq => Lv.own_ge hid q hq)⟩
          rw [HE.out]
          exact Lv.INew.snoc hown
        obtain ⟨qa, qc, rfl⟩ := Lv.own_slice hown
        have HL : Hid ((needL fs 4).length = P.length + 1) := by show _ = _; rw [HE.out]; simp
        refine ⟨⟨4, by omega, by first | rfl | go_num, ⟨qa, qc, ?_⟩, HN⟩, by simp [intOf]⟩
        rw [HL.out]
      · have HE : Hid (needL fs 4 = needL fs 3) := need3_yes hb
        have HS : Hid (saidB fs 4 = true) := hb
        clear hb
        go_wp2_with fail
        refine (HH.out 4 _ HI.out.2).mono ?_
        rw [HS.out]
        rintro e w2 ⟨rfl, hb2⟩
        have HI2 : Hid (Lv.INew w2 w.heap.size (.slice a (needL fs 4).length c) (needL fs 4) ∧ Below w.heap.size w w2) := by
          have h : Lv.INew w2 w.heap.size (.slice a (needL fs 3).length c) (needL fs 3) ∧ Below w.heap.size w w2 := ⟨Lv.own_keep HI.out.1 hb2, below_step HI.out.2 hb2⟩
          rw [HE.out]
          exact h
        clear HI hb2
        rw [← HE.out]
        go_wp2
        exact ⟨⟨4, by omega, by first | rfl | go_num, ⟨a, c, rfl⟩, HI2⟩, by simp [intOf]⟩
    · go_wp2
      go_ret
      exact ⟨.slice a (needL fs 4).length c, rfl, HI.out.1, HI.out.2⟩
end Go.Proofs.YtfjblenkcfdbiaaGreatDoor.Sd

namespace Go.Proofs.YtfjblenkcfdbiaaGreatDoor.Sd
open Go.RowKit Go.Proofs.YtfjblenkcfdbiaaGreatDoor

/-- Its state was said to be closed. -/
def closedB (fs : List Fld) : Bool := match fs.find? fun f => decide (f.what = 5) with
  | some f => decide (f.v = closedS)
  | none => false
theorem closedB_at {fs : List Fld} {k : Nat} {f : Fld} (hk : k < fs.length) (h : fat fs k = f) (h5 : f.what = 5) (hn : ∀ j, j < k → ¬ (fat fs j).what = 5) : closedB fs = decide (f.v = closedS) := by
  have hf : fs.find? (fun f => decide (f.what = 5)) = some f := by
    have hg := fat_get hk
    rw [h] at hg
    obtain ⟨hlt, rfl⟩ := List.getElem?_eq_some_iff.1 hg
    rw [List.find?_eq_some_iff_getElem]
    exact ⟨by simp [h5], k, hlt, rfl, fun j hj => by
      have := hn j hj
      have e : fat fs j = fs[j] := by simp [fat, show j < fs.length by omega]
      rw [e] at this
      simp [this]⟩
  unfold closedB
  rw [hf]
theorem closedB_no {fs : List Fld} (hn : ∀ j, j < fs.length → ¬ (fat fs j).what = 5) : closedB fs = false := by
  have hf : fs.find? (fun f => decide (f.what = 5)) = none := by
    rw [List.find?_eq_none]
    intro x hx
    obtain ⟨i, hi, rfl⟩ := List.getElem_of_mem hx
    have := hn i hi
    have e : fat fs i = fs[i] := by simp [fat, hi]
    rw [e] at this
    simp [this]
  unfold closedB
  rw [hf]
theorem as1_1 (v : Value) (w : World) : (Instr.typeAssert (.iface 166 v) 156 166 true).run Tryz.prog w = .ok (.tuple #[v, .bool true]) w := by kernel_rfl
theorem as1_2 (v : Value) (w : World) : (Instr.typeAssert (.iface 166 v) 156 169 true).run Tryz.prog w = .ok (.tuple #[.agg #[.int .i64 0, .int .i64 0], .bool false]) w := by kernel_rfl
theorem as1_3 (v : Value) (w : World) : (Instr.typeAssert (.iface 166 v) 156 172 true).run Tryz.prog w = .ok (.tuple #[.agg #[.int .i64 0], .bool false]) w := by kernel_rfl
theorem as1_4 (v : Value) (w : World) : (Instr.typeAssert (.iface 166 v) 156 175 true).run Tryz.prog w = .ok (.tuple #[.agg #[.slice none 0 0], .bool false]) w := by kernel_rfl
theorem as1_5 (v : Value) (w : World) : (Instr.typeAssert (.iface 166 v) 156 162 true).run Tryz.prog w = .ok (.tuple #[.agg #[.bool false], .bool false]) w := by kernel_rfl
theorem as2_1 (v : Value) (w : World) : (Instr.typeAssert (.iface 169 v) 156 166 true).run Tryz.prog w = .ok (.tuple #[.agg #[.string ⟨#[]⟩, .int .i64 0, .int .i64 0], .bool false]) w := by kernel_rfl
theorem as2_2 (v : Value) (w : World) : (Instr.typeAssert (.iface 169 v) 156 169 true).run Tryz.prog w = .ok (.tuple #[v, .bool true]) w := by kernel_rfl
theorem as2_3 (v : Value) (w : World) : (Instr.typeAssert (.iface 169 v) 156 172 true).run Tryz.prog w = .ok (.tuple #[.agg #[.int .i64 0], .bool false]) w := by kernel_rfl
theorem as2_4 (v : Value) (w : World) : (Instr.typeAssert (.iface 169 v) 156 175 true).run Tryz.prog w = .ok (.tuple #[.agg #[.slice none 0 0], .bool false]) w := by kernel_rfl
theorem as2_5 (v : Value) (w : World) : (Instr.typeAssert (.iface 169 v) 156 162 true).run Tryz.prog w = .ok (.tuple #[.agg #[.bool false], .bool false]) w := by kernel_rfl
theorem as3_1 (v : Value) (w : World) : (Instr.typeAssert (.iface 172 v) 156 166 true).run Tryz.prog w = .ok (.tuple #[.agg #[.string ⟨#[]⟩, .int .i64 0, .int .i64 0], .bool false]) w := by kernel_rfl
theorem as3_2 (v : Value) (w : World) : (Instr.typeAssert (.iface 172 v) 156 169 true).run Tryz.prog w = .ok (.tuple #[.agg #[.int .i64 0, .int .i64 0], .bool false]) w := by kernel_rfl
theorem as3_3 (v : Value) (w : World) : (Instr.typeAssert (.iface 172 v) 156 172 true).run Tryz.prog w = .ok (.tuple #[v, .bool true]) w := by kernel_rfl
theorem as3_4 (v : Value) (w : World) : (Instr.typeAssert (.iface 172 v) 156 175 true).run Tryz.prog w = .ok (.tuple #[.agg #[.slice none 0 0], .bool false]) w := by kernel_rfl
theorem as3_5 (v : Value) (w : World) : (Instr.typeAssert (.iface 172 v) 156 162 true).run Tryz.prog w = .ok (.tuple #[.agg #[.bool false], .bool false]) w := by kernel_rfl
theorem as4_1 (v : Value) (w : World) : (Instr.typeAssert (.iface 175 v) 156 166 true).run Tryz.prog w = .ok (.tuple #[.agg #[.string ⟨#[]⟩, .int .i64 0, .int .i64 0], .bool false]) w := by kernel_rfl
theorem as4_2 (v : Value) (w : World) : (Instr.typeAssert (.iface 175 v) 156 169 true).run Tryz.prog w = .ok (.tuple #[.agg #[.int .i64 0, .int .i64 0], .bool false]) w := by kernel_rfl
theorem as4_3 (v : Value) (w : World) : (Instr.typeAssert (.iface 175 v) 156 172 true).run Tryz.prog w = .ok (.tuple #[.agg #[.int .i64 0], .bool false]) w := by kernel_rfl
theorem as4_4 (v : Value) (w : World) : (Instr.typeAssert (.iface 175 v) 156 175 true).run Tryz.prog w = .ok (.tuple #[v, .bool true]) w := by kernel_rfl
theorem as4_5 (v : Value) (w : World) : (Instr.typeAssert (.iface 175 v) 156 162 true).run Tryz.prog w = .ok (.tuple #[.agg #[.bool false], .bool false]) w := by kernel_rfl
theorem as5_1 (v : Value) (w : World) : (Instr.typeAssert (.iface 162 v) 156 166 true).run Tryz.prog w = .ok (.tuple #[.agg #[.string ⟨#[]⟩, .int .i64 0, .int .i64 0], .bool false]) w := by kernel_rfl
theorem as5_2 (v : Value) (w : World) : (Instr.typeAssert (.iface 162 v) 156 169 true).run Tryz.prog w = .ok (.tuple #[.agg #[.int .i64 0, .int .i64 0], .bool false]) w := by kernel_rfl
theorem as5_3 (v : Value) (w : World) : (Instr.typeAssert (.iface 162 v) 156 172 true).run Tryz.prog w = .ok (.tuple #[.agg #[.int .i64 0], .bool false]) w := by kernel_rfl
theorem as5_4 (v : Value) (w : World) : (Instr.typeAssert (.iface 162 v) 156 175 true).run Tryz.prog w = .ok (.tuple #[.agg #[.slice none 0 0], .bool false]) w := by kernel_rfl
theorem as5_5 (v : Value) (w : World) : (Instr.typeAssert (.iface 162 v) 156 162 true).run Tryz.prog w = .ok (.tuple #[v, .bool true]) w := by kernel_rfl

set_option maxRecDepth 100000 in
set_option maxHeartbeats 6400000 in
theorem closed_any (D B : Nat) (v nm : Value) (ks ps : List Tri) (fs : List Fld) (w : World) (hD : w.heap[D]? = some (.cells #[v, nm] 124 (0, 0))) (hP : PartsNew w B v ks fs) (hfit : ∀ f ∈ fs, valB2 ks ps f.what f.v = true) :
    Calls Tryz.prog 73 #[.pointer (some ⟨D, 0, none⟩)] w fun e w' => e = .returned (.bool (closedB fs)) ∧ Below w.heap.size w w' := by
  obtain ⟨a, c, rfl, hlc, hcm, hc⟩ := hP.cells
  unfold maxLen at hcm
  obtain ⟨d0, d1⟩ := cell_two hD
  have HC : Hid (∀ i, i < fs.length → ∃ g u, a = some ⟨g, 0, none⟩ ∧ w.cell? ⟨g, i, none⟩ = some (pv ks (fat fs i) u)) := fun i hi => by
    obtain ⟨g, u, h1, h2, _⟩ := hc i hi
    exact ⟨g, u, h1, h2⟩
  have HFT : Hid (∀ i, i < fs.length → (fat fs i).what = 1 ∨ (fat fs i).what = 2 ∨ (fat fs i).what = 3 ∨ (fat fs i).what = 4 ∨ (fat fs i).what = 5) := fun i hi => what_in (hfit _ (List.mem_of_getElem? (fat_get hi)))
  clear hc hP hfit hD
  go_enter Tryz.func73, Tryz.ntmps73
  go_wp2
  clear d0 d1
  go_loopw [13] (fun i wr => ∃ k : Nat, k ≤ fs.length ∧ i = .int .i64 k ∧ Hid (Below w.heap.size w wr ∧ ∀ j, j < k → ¬ (fat fs j).what = 5)) (fun i _ => fs.length - (intOf i).toNat)
  case atStart => exact ⟨0, Nat.zero_le _, rfl, Below.refl _ _, fun j hj => absurd hj (Nat.not_lt_zero _)⟩
  case round =>
    obtain ⟨k, hk, rfl, HI⟩ := hrel
    by_cases hlt : k < fs.length
    · obtain ⟨g, u, rfl, e0⟩ := HC.out k hlt
      have c0 := cell_keep HI.out.1 (Nat.le_refl _) e0
      have hk0 : (0 : Int) ≤ (k : Int) := by omega
      have hk1 : (k : Int) < (fs.length : Int) := by omega
      obtain ⟨f, hf⟩ : ∃ f, fat fs k = f := ⟨_, rfl⟩
      have HFK : Hid (fat fs k = f) := hf
      have hw := HFT.out k hlt
      rw [hf] at c0 hw
      clear hf e0
      obtain ⟨wh, num, vl⟩ := f
      dsimp only at hw
      rcases hw with rfl | rfl | rfl | rfl | rfl
      · rw [pv1] at c0
        have hta := as1_5
        have HN : Hid (∀ j, j < k + 1 → ¬ (fat fs j).what = 5) := fun j hj => if e : j = k then by rw [e, HFK.out]; simp else HI.out.2 j (by omega)
        have HB2 : Hid (Below w.heap.size w (wr.alloc (.cells #[.bool false] 162))) := below_step HI.out.1 ((Below.refl _ _).alloc (Nat.le_refl _) _)
        go_wp2
        exact ⟨⟨k + 1, by omega, by go_num, HB2.out, HN.out⟩, by simp [intOf]; omega⟩
      · rw [pv2] at c0
        have hta := as2_5
        have HN : Hid (∀ j, j < k + 1 → ¬ (fat fs j).what = 5) := fun j hj => if e : j = k then by rw [e, HFK.out]; simp else HI.out.2 j (by omega)
        have HB2 : Hid (Below w.heap.size w (wr.alloc (.cells #[.bool false] 162))) := below_step HI.out.1 ((Below.refl _ _).alloc (Nat.le_refl _) _)
        go_wp2
        exact ⟨⟨k + 1, by omega, by go_num, HB2.out, HN.out⟩, by simp [intOf]; omega⟩
      · rw [pv3] at c0
        have hta := as3_5
        have HN : Hid (∀ j, j < k + 1 → ¬ (fat fs j).what = 5) := fun j hj => if e : j = k then by rw [e, HFK.out]; simp else HI.out.2 j (by omega)
        have HB2 : Hid (Below w.heap.size w (wr.alloc (.cells #[.bool false] 162))) := below_step HI.out.1 ((Below.refl _ _).alloc (Nat.le_refl _) _)
        go_wp2
        exact ⟨⟨k + 1, by omega, by go_num, HB2.out, HN.out⟩, by simp [intOf]; omega⟩
      · rw [pv4] at c0
        have hta := as4_5
        have HN : Hid (∀ j, j < k + 1 → ¬ (fat fs j).what = 5) := fun j hj => if e : j = k then by rw [e, HFK.out]; simp else HI.out.2 j (by omega)
        have HB2 : Hid (Below w.heap.size w (wr.alloc (.cells #[.bool false] 162))) := below_step HI.out.1 ((Below.refl _ _).alloc (Nat.le_refl _) _)
        go_wp2
        exact ⟨⟨k + 1, by omega, by go_num, HB2.out, HN.out⟩, by simp [intOf]; omega⟩
      · rw [pv5] at c0
        have hta := as5_5
        have HB2 : Hid (Below w.heap.size w (wr.alloc (.cells #[.bool (decide (vl = closedS))] 162))) := below_step HI.out.1 ((Below.refl _ _).alloc (Nat.le_refl _) _)
        have HE : Hid (closedB fs = decide (vl = closedS)) := closedB_at hlt HFK.out rfl HI.out.2
        generalize decide (vl = closedS) = bb at *
        go_wp2
        go_ret
        exact ⟨ret_bool HE.out.symm, HB2.out⟩
    · go_wp2
      go_ret
      exact ⟨ret_bool (closedB_no fun j hj => HI.out.2 j (by omega)).symm, HI.out.1⟩
end Go.Proofs.YtfjblenkcfdbiaaGreatDoor.Sd
