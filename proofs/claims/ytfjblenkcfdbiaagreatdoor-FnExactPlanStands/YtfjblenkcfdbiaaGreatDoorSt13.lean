
/-
  Whether an entry stands: the specification's.
-/
import Derived.Test.YtfjblenkcfdbiaaGreatDoorSt12c
namespace Go.Proofs.YtfjblenkcfdbiaaGreatDoor.Sd
open Go.RowKit Go.Proofs.YtfjblenkcfdbiaaGreatDoor
set_option linter.unusedSimpArgs false
set_option linter.unusedVariables false

theorem atI_plc {l : List Tri} {v : ByteArray} (h : ∀ i, i < l.length → ascB l i = true) (hv : hasB l v = true) : atI l v = ((plc l v : Nat) : Int) := by
  have hv' := hv
  unfold hasB at hv'
  rw [Bool.and_eq_true] at hv'
  have h1 := of_decide_eq_true hv'.1
  have h2 := of_decide_eq_true hv'.2
  refine atI_some h1 h2 fun j hj e => ?_
  have h3 := asc_lt h j (plc l v) hj h1
  rw [e, h2, blS_irrefl] at h3
  cases h3
/-- What fits is not empty. -/
theorem fit_some {ks ps : List Tri} {x : Int} {v : ByteArray} (hk : kindsB ks = true) (h : valB2 ks ps x v = true) : v ≠ ⟨#[]⟩ := by
  rintro rfl
  rcases what_in (f := ⟨x, 0, ⟨#[]⟩⟩) h with e | e | e | e | e <;> dsimp only at e <;> subst e
  · have h1 : hasB ks ⟨#[]⟩ = true := by simpa [valB2] using h
    unfold hasB at h1
    rw [Bool.and_eq_true] at h1
    have h2 := of_decide_eq_true h1.1
    have h3 := of_decide_eq_true h1.2
    unfold kindsB namesB at hk
    rw [Bool.and_eq_true, Bool.and_eq_true] at hk
    have h4 := allB_get hk.1.2 _ h2
    rw [Bool.and_eq_true, h3] at h4
    have h5 := h4.1
    revert h5
    decide
  · have h1 : timeB (cutW ⟨#[]⟩) = true := by simpa [valB2] using h
    revert h1
    decide
  · have h1 : levelB ⟨#[]⟩ = true := by simpa [valB2] using h
    revert h1
    decide
  · have h1 : routeB ps (cutW ⟨#[]⟩) = true := by simpa [valB2] using h
    unfold routeB at h1
    rw [Bool.and_eq_true] at h1
    have h2 := h1.1
    revert h2
    decide
  · have h1 : stateB ⟨#[]⟩ = true := by simpa [valB2] using h
    revert h1
    decide
theorem fnd_mem {fs : List Fld} {x : Int} {f : Fld} (h : fndV fs x = some f) : f ∈ fs ∧ f.what = x := by
  unfold fndV at h
  exact ⟨List.mem_of_find?_eq_some h, by simpa using List.find?_some h⟩
/-- Nothing is said just if its value is empty. -/
theorem val_said {ks ps : List Tri} {fs : List Fld} (hk : kindsB ks = true) (hf : ∀ f ∈ fs, valB2 ks ps f.what f.v = true) (x : Int) : ((valV fs x).toList == []) = !saidB fs x := by
  rw [said_find]
  unfold valV
  have h2 : (⟨#[]⟩ : ByteArray).toList = [] := by rw [ByteArray.toList_eq]
  cases h : fndV fs x with
  | none =>
    show ((⟨#[]⟩ : ByteArray).toList == []) = true
    rw [h2]
    rfl
  | some f =>
    have h1 := fit_some hk (hf f (fnd_mem h).1)
    show (f.v.toList == []) = false
    rw [← h2]
    exact str_ne h1
theorem need_zero {fs : List Fld} (h1 : saidB fs 1 = true) (h2 : saidB fs 2 = true) (h3 : saidB fs 3 = true) (h4 : saidB fs 4 = true) : (needL fs 4).length = 0 := by simp [needL, List.filter, h1, h2, h3, h4]
theorem need_some {fs : List Fld} {k : Nat} (hk : 1 ≤ k ∧ k ≤ 4) (h : saidB fs (k : Int) = false) : stB fs = false := by
  have : (needL fs 4).length ≠ 0 := by
    intro h0
    have h1 : needL fs 4 = [] := List.eq_nil_of_length_eq_zero h0
    have h2 : (k : Int) ∈ needL fs 4 := by
      unfold needL
      rw [List.mem_filter]
      refine ⟨?_, by simp [h]⟩
      rcases (show k = 1 ∨ k = 2 ∨ k = 3 ∨ k = 4 by omega) with rfl | rfl | rfl | rfl <;> simp
    rw [h1] at h2
    simp at h2
  unfold stB
  rw [decide_eq_false this]
  rfl
set_option maxRecDepth 100000 in
set_option maxHeartbeats 12800000 in
theorem l6Stands_any (vk vp ve fv : Value) (ks ps : List Tri) (nm : ByteArray) (fs : List Fld) (w : World) (hk : TrisAt w vk ks) (hfl : FldsAt w fv fs) (hkk : kindsB ks = true) (hfit : ∀ f ∈ fs, valB2 ks ps f.what f.v = true ∧ f.v.size ≤ 1048576) (hasc : AscF fs) (hvp : ∃ a n c, vp = .slice a n c) (hve : ∃ a n c, ve = .slice a n c) :
    Calls Tryz.prog 31 #[.agg #[vk, vp, ve], .agg #[.string nm, fv]] w fun e w' => ∃ rt, e = .returned (.tuple #[.agg (stC ks nm fs rt), .bool (stB fs)]) ∧ (stB fs = true → RtIs w' w.heap.size rt (lastV fs 4)) ∧ Below w.heap.size w w' := by
  have HK : Hid (∀ wx : World, Below w.heap.size w wx → TrisAt wx vk ks) := fun wx hx => hk.keep hx
  have HFL : Hid (∀ wx : World, Below w.heap.size w wx → FldsAt wx fv fs) := fun wx hx => hfl.keep hx
  have HFT : Hid (∀ f ∈ fs, valB2 ks ps f.what f.v = true) := fun f h => (hfit f h).1
  have HSZ : Hid (∀ f ∈ fs, f.v.size ≤ 1048576) := fun f h => (hfit f h).2
  have HVS : Hid (∀ x, ((valV fs x).toList == []) = !saidB fs x) := fun x => val_said hkk HFT.out x
  have HKK : Hid (kindsB ks = true ∧ AscF fs) := ⟨hkk, hasc⟩
  obtain ⟨ak, ck, rfl, hk1, hk2, -⟩ := hk
  obtain ⟨af, cf, rfl, -, -, -⟩ := hfl
  obtain ⟨pa, pn, pc, rfl⟩ := hvp
  obtain ⟨ea, en, ec, rfl⟩ := hve
  unfold maxLen at hk2
  clear hfit hkk hasc
  have A1 : Hid (Below w.heap.size w (((w.alloc (.cells #[.slice ak ks.length ck, .slice pa pn pc, .slice ea en ec] 37)).alloc (.cells #[.string nm, .slice af fs.length cf] 60)).alloc (.cells #[.string ⟨#[]⟩, .string ⟨#[]⟩, .int .i64 0, .int .i64 0, .int .i64 0, .int .i64 0, .int .i64 0, .slice none 0 0] 45))) := (((Below.refl _ _).alloc (Nat.le_refl _) _).alloc (by simp) _).alloc (by simp; omega) _
  have R1 : Hid ((((w.alloc (.cells #[.slice ak ks.length ck, .slice pa pn pc, .slice ea en ec] 37)).alloc (.cells #[.string nm, .slice af fs.length cf] 60)).alloc (.cells #[.string ⟨#[]⟩, .string ⟨#[]⟩, .int .i64 0, .int .i64 0, .int .i64 0, .int .i64 0, .int .i64 0, .slice none 0 0] 45)).heap[w.heap.size + 2]? = some (.cells #[.string ⟨#[]⟩, .string ⟨#[]⟩, .int .i64 0, .int .i64 0, .int .i64 0, .int .i64 0, .int .i64 0, .slice none 0 0] 45 (0, 0))) := by
    have h := Lv.heap_newF ((w.alloc (.cells #[.slice ak ks.length ck, .slice pa pn pc, .slice ea en ec] 37)).alloc (.cells #[.string nm, .slice af fs.length cf] 60)) (.cells #[.string ⟨#[]⟩, .string ⟨#[]⟩, .int .i64 0, .int .i64 0, .int .i64 0, .int .i64 0, .int .i64 0, .slice none 0 0] 45)
    rw [show ((w.alloc (.cells #[.slice ak ks.length ck, .slice pa pn pc, .slice ea en ec] 37)).alloc (.cells #[.string nm, .slice af fs.length cf] 60)).heap.size = w.heap.size + 2 by simp] at h
    exact h
  have Q0 : Hid (∀ wx : World, Below (((w.alloc (.cells #[.slice ak ks.length ck, .slice pa pn pc, .slice ea en ec] 37)).alloc (.cells #[.string nm, .slice af fs.length cf] 60)).alloc (.cells #[.string ⟨#[]⟩, .string ⟨#[]⟩, .int .i64 0, .int .i64 0, .int .i64 0, .int .i64 0, .int .i64 0, .slice none 0 0] 45)).heap.size (((w.alloc (.cells #[.slice ak ks.length ck, .slice pa pn pc, .slice ea en ec] 37)).alloc (.cells #[.string nm, .slice af fs.length cf] 60)).alloc (.cells #[.string ⟨#[]⟩, .string ⟨#[]⟩, .int .i64 0, .int .i64 0, .int .i64 0, .int .i64 0, .int .i64 0, .slice none 0 0] 45)) wx → (wx.cell? ⟨w.heap.size, 0, none⟩ = some (.slice ak ks.length ck) ∧ wx.cell? ⟨w.heap.size, 1, none⟩ = some (.slice pa pn pc) ∧ wx.cell? ⟨w.heap.size, 2, none⟩ = some (.slice ea en ec)) ∧ wx.cell? ⟨w.heap.size + 1, 0, none⟩ = some (.string nm) ∧ wx.cell? ⟨w.heap.size + 1, 1, none⟩ = some (.slice af fs.length cf)) := fun wx hx => ⟨⟨cell_keep hx (Nat.le_refl _) (by simp [go_sem]), cell_keep hx (Nat.le_refl _) (by simp [go_sem]), cell_keep hx (Nat.le_refl _) (by simp [go_sem])⟩, cell_keep hx (Nat.le_refl _) (by simp [go_sem]), cell_keep hx (Nat.le_refl _) (by simp [go_sem])⟩
  go_enter Tryz.func31, Tryz.ntmps31
  go_wp2_with fail
  generalize (((w.alloc (.cells #[.slice ak ks.length ck, .slice pa pn pc, .slice ea en ec] 37)).alloc (.cells #[.string nm, .slice af fs.length cf] 60)).alloc (.cells #[.string ⟨#[]⟩, .string ⟨#[]⟩, .int .i64 0, .int .i64 0, .int .i64 0, .int .i64 0, .int .i64 0, .slice none 0 0] 45)) = w1 at *
  have GV : Hid (∀ (x : Int) (wx : World), Below w1.heap.size w1 wx → Calls Tryz.prog 67 #[.agg #[.string nm, .slice af fs.length cf], .int .i64 x] wx fun e w' => e = .returned (.string (valV fs x)) ∧ Below wx.heap.size wx w') := fun x wx hx => l6Value_any nm _ fs x wx (HFL.out _ (below_step A1.out hx))
  go_loopw [6] (fun i wr => ∃ k : Nat, 1 ≤ k ∧ k ≤ 5 ∧ i = .int .i64 k ∧ Hid (Below w1.heap.size w1 wr ∧ ∀ j : Nat, 1 ≤ j → j < k → saidB fs (j : Int) = true)) (fun i _ => 5 - (intOf i).toNat)
  case atStart => exact ⟨1, Nat.le_refl _, by omega, rfl, Below.refl _ _, fun j h1 h2 => by omega⟩
  case round =>
    obtain ⟨k, hk0, hk5, rfl, HI⟩ := hrel
    by_cases hlt : k ≤ 4
    · have hk4 : (k : Int) ≤ 4 := by omega
      obtain ⟨⟨p0, p1, p2⟩, p3, p4⟩ := Q0.out _ HI.out.1
      have hvs := HVS.out (k : Int)
      cases hsd : saidB fs (k : Int)
      · rw [hsd] at hvs
        have HE : Hid (stB fs = false) := need_some ⟨hk0, hlt⟩ hsd
        have HS : Hid (∀ rt, stC ks nm fs rt = #[.string ⟨#[]⟩, .string ⟨#[]⟩, .int .i64 0, .int .i64 0, .int .i64 0, .int .i64 0, .int .i64 0, .slice none 0 0]) := fun rt => by unfold stC; rw [HE.out]; rfl
        clear hsd
        go_wp2_with fail
        refine (GV.out _ _ HI.out.1).mono ?_
        rintro e w2 ⟨rfl, hb2⟩
        have hR := below_block (below_step HI.out.1 hb2) R1.out
        have B2 : Hid (Below w.heap.size w w2) := below_step (below_step A1.out HI.out.1) hb2
        generalize valV fs (k : Int) = vv at *
        have hvs' : (vv.toList == []) = true := hvs
        go_wp2_with (refine wpList_store_row rfl 45 _ _ rfl (w.heap.size + 2) #[.string ⟨#[]⟩, .string ⟨#[]⟩, .int .i64 0, .int .i64 0, .int .i64 0, .int .i64 0, .int .i64 0, .slice none 0 0] rfl rfl 45 _ hR (by kernel_rfl) rfl (by simp [Value.oneCell']) ?_)
        exact bodyPost_ret (v := .tuple #[.agg #[.string ⟨#[]⟩, .string ⟨#[]⟩, .int .i64 0, .int .i64 0, .int .i64 0, .int .i64 0, .int .i64 0, .slice none 0 0], .bool false]) (by simp [results, Tryz.results31, go_sem, cell_setRow_same _ _ _ _ _ _ _ hR]) rfl ⟨.slice none 0 0, by rw [HE.out, HS.out], (fun h => by rw [HE.out] at h; cases h), below_setRow B2.out (by omega) _⟩
      · rw [hsd] at hvs
        have HN : Hid (∀ j : Nat, 1 ≤ j → j < k + 1 → saidB fs (j : Int) = true) := fun j h1 h2 => if e : j = k then by rw [e]; exact hsd else HI.out.2 j h1 (by omega)
        clear hsd
        go_wp2_with fail
        refine (GV.out _ _ HI.out.1).mono ?_
        rintro e w2 ⟨rfl, hb2⟩
        have B2 : Hid (Below w1.heap.size w1 w2) := below_step HI.out.1 hb2
        generalize valV fs (k : Int) = vv at *
        have hvs' : (vv.toList == []) = false := hvs
        go_wp2
        exact ⟨⟨k + 1, by omega, by omega, by go_num, B2.out, HN.out⟩, by simp [intOf]; omega⟩
    · have hk4 : ¬ (k : Int) ≤ 4 := by omega
      have s1 := HI.out.2 1 (by omega) (by omega)
      have s2 := HI.out.2 2 (by omega) (by omega)
      have s3 := HI.out.2 3 (by omega) (by omega)
      have s4 := HI.out.2 4 (by omega) (by omega)
      have HNZ : Hid ((needL fs 4).length = 0) := need_zero s1 s2 s3 s4
      rw [said_find] at s1 s2 s3 s4
      obtain ⟨f1, g1⟩ := Option.isSome_iff_exists.1 s1
      obtain ⟨f2, g2⟩ := Option.isSome_iff_exists.1 s2
      obtain ⟨f3, g3⟩ := Option.isSome_iff_exists.1 s3
      obtain ⟨f4, g4⟩ := Option.isSome_iff_exists.1 s4
      have m1 := fnd_mem g1
      have m2 := fnd_mem g2
      have m3 := fnd_mem g3
      have m4 := fnd_mem g4
      have HL : Hid ((lastV fs 1 = some f1 ∧ lastV fs 2 = some f2) ∧ lastV fs 3 = some f3 ∧ lastV fs 4 = some f4) := by
        have hl : ∀ x, lastV fs x = fndV fs x := fun x => last_find fs (asc_wlt HKK.out.2)
        exact ⟨⟨(hl 1).trans g1, (hl 2).trans g2⟩, (hl 3).trans g3, (hl 4).trans g4⟩
      have HV : Hid ((valV fs 1 = f1.v ∧ valV fs 2 = f2.v) ∧ valV fs 3 = f3.v ∧ valV fs 4 = f4.v) := by
        unfold valV
        have e1 : fndV fs 1 = some f1 := g1
        have e2 : fndV fs 2 = some f2 := g2
        have e3 : fndV fs 3 = some f3 := g3
        have e4 : fndV fs 4 = some f4 := g4
        rw [e1, e2, e3, e4]
        exact ⟨⟨rfl, rfl⟩, rfl, rfl⟩
      have t1 := HFT.out f1 m1.1
      have t2 := HFT.out f2 m2.1
      have t3 := HFT.out f3 m3.1
      have t4 := HFT.out f4 m4.1
      rw [m1.2] at t1
      rw [m2.2] at t2
      rw [m3.2] at t3
      rw [m4.2] at t4
      have t1 : hasB ks f1.v = true := by simpa [valB2] using t1
      have t2 : timeB (cutW f2.v) = true := by simpa [valB2] using t2
      have t3 : levelB f3.v = true := by simpa [valB2] using t3
      have HZ : Hid ((f1.v.size ≤ 1048576 ∧ f2.v.size ≤ 1048576) ∧ f3.v.size ≤ 1048576 ∧ f4.v.size ≤ 1048576) := ⟨⟨HSZ.out _ m1.1, HSZ.out _ m2.1⟩, HSZ.out _ m3.1, HSZ.out _ m4.1⟩
      clear s1 s2 s3 s4 g1 g2 g3 g4 m1 m2 m3 m4 t4
      obtain ⟨⟨p0, p1, p2⟩, p3, p4⟩ := Q0.out _ HI.out.1
      have hcl : ((valV fs 5).toList == [99, 108, 111, 115, 101, 100]) = closedB fs := by
        have hcs : closedS.toList = [99, 108, 111, 115, 101, 100] := by rw [ByteArray.toList_eq]; rfl
        rw [← hcs, closed_find]
        by_cases h : valV fs 5 = closedS
        · rw [decide_eq_true h]; exact str_eq h
        · rw [decide_eq_false h]; exact str_ne h
      go_wp2_with fail
      refine (GV.out 5 _ HI.out.1).mono ?_
      rintro e w2 ⟨rfl, hb2⟩
      have B2 : Hid (Below w1.heap.size w1 w2) := below_step HI.out.1 hb2
      clear hb2 p0 p1 p2 p3 p4
      obtain ⟨⟨p0, p1, p2⟩, p3, p4⟩ := Q0.out _ B2.out
      generalize valV fs 5 = vv at *
      cases hc : closedB fs
      · rw [hc] at hcl
        have HE : Hid (stB fs = true) := by show _ = _; unfold stB; rw [decide_eq_true HNZ.out, hc]; rfl
        have HS : Hid (∀ rt, stC ks nm fs rt = flO ks nm fs rt) := fun rt => by unfold stC; rw [HE.out]; rfl
        clear hc
        go_wp2_with fail
        refine (GV.out 2 _ B2.out).mono ?_
        rw [HV.out.1.2]
        rintro e w3 ⟨rfl, hb3⟩
        have B3 : Hid (Below w1.heap.size w1 w3) := below_step B2.out hb3
        clear hb3 p0 p1 p2 p3 p4 B2
        go_wp2_with fail
        refine (l2Cut_new f2.v _ HZ.out.1.2).mono ?_
        rintro e w4 ⟨tv, rfl, hsn, hb4⟩
        have hst := strs_of_own (ws := cutW f2.v) hsn (by intro e0; unfold timeB at t2; rw [e0] at t2; simp at t2)
        have B4 : Hid (Below w1.heap.size w1 w4) := below_step B3.out hb4
        have HST : Hid (StrsAt w4 tv (cutW f2.v)) := hst
        obtain ⟨tg, toff, tcap, rfl, htl, htm, -⟩ := hst
        unfold maxLen at htm
        have HNT : Hid (tg ≠ w.heap.size + 2) := by
          have h1 := own_ge hsn tg rfl
          have h2 := lt_of_block (below_block B3.out R1.out)
          show tg ≠ _
          omega
        clear hb4 B3 hsn
        have h1a : plc ks f1.v < ks.length := by
          unfold hasB at t1
          rw [Bool.and_eq_true] at t1
          exact of_decide_eq_true t1.1
        have HAT : Hid (atI ks f1.v = ((plc ks f1.v : Nat) : Int)) := atI_plc (kinds_asc HKK.out.1) t1
        have HKD : Hid (kdOf ks (lastV fs 1) = at' ks (plc ks f1.v)) := by show _ = _; rw [HL.out.1.1]; rfl
        have HKT : Hid (∀ wx : World, Below w.heap.size w wx → ∃ b off, ak = some ⟨b, off, none⟩ ∧ TriAt wx b (off + plc ks f1.v * 3) (at' ks (plc ks f1.v))) := fun wx hx => by
          obtain ⟨a9, c9, e9, -, -, h9⟩ := HK.out wx hx
          obtain ⟨b, off, ha, hc⟩ := h9 _ _ (at_get h1a)
          cases e9
          exact ⟨b, off, ha, hc⟩
        obtain ⟨tr, htr⟩ : ∃ t, at' ks (plc ks f1.v) = t := ⟨_, rfl⟩
        rw [htr] at HKD HKT
        clear htr
        obtain ⟨q, hq⟩ : ∃ j, plc ks f1.v = j := ⟨_, rfl⟩
        rw [hq] at HKT HAT h1a
        clear hq t1
        have hq0 : (0 : Int) ≤ (q : Int) := by omega
        have hq1 : (q : Int) < (ks.length : Int) := by omega
        obtain ⟨b, off, rfl, -⟩ := HKT.out w (Below.refl _ _)
        have HKT2 : Hid (∀ wx : World, Below w.heap.size w wx → TriAt wx b (off + q * 3) tr) := fun wx hx => by
          obtain ⟨b', off', e, hc⟩ := HKT.out wx hx
          cases e
          exact hc
        clear HKT
        unfold timeB at t2
        rw [Bool.and_eq_true, Bool.and_eq_true, Bool.and_eq_true] at t2
        have hl2 := of_decide_eq_true t2.1
        have d0 := t2.2.1
        have d1 := t2.2.2.1
        unfold levelB at t3
        rw [Bool.and_eq_true] at t3
        have hi0 : 0 < (cutW f2.v).length := by omega
        have hi1 : 1 < (cutW f2.v).length := by omega
        have HFR : Hid ((frOf (lastV fs 2) = rdN (wat (cutW f2.v) 0) ∧ byOf (lastV fs 2) = rdN (wat (cutW f2.v) 1)) ∧ lvOf (lastV fs 3) = rdN f3.v) := by
          show _ ∧ _
          rw [HL.out.1.2, HL.out.2.1]
          refine ⟨⟨?_, ?_⟩, rfl⟩
          · show tmF _ = _; unfold tmF; rw [decide_eq_true hl2]; rfl
          · show tmY _ = _; unfold tmY; rw [decide_eq_true hl2]; rfl
        have num : ∀ x, decB x = true → (bif decB x then (numTo x x.size : Int) else -1) = rdN x := fun x h => by unfold rdN numV; rw [h]; rfl
        have N0 : Hid ((bif decB (wat (cutW f2.v) 0) then (numTo (wat (cutW f2.v) 0) (wat (cutW f2.v) 0).size : Int) else -1) = rdN (wat (cutW f2.v) 0)) := num _ d0
        have N1 : Hid ((bif decB (wat (cutW f2.v) 1) then (numTo (wat (cutW f2.v) 1) (wat (cutW f2.v) 1).size : Int) else -1) = rdN (wat (cutW f2.v) 1)) := num _ d1
        have N2 : Hid ((bif decB f3.v then (numTo f3.v f3.v.size : Int) else -1) = rdN f3.v) := num _ t3.1
        have SZ : Hid ((wat (cutW f2.v) 0).size ≤ maxLen ∧ (wat (cutW f2.v) 1).size ≤ maxLen ∧ f3.v.size ≤ maxLen) := by
          have hz := HZ.out
          have e1 := cutW_size f2.v _ (List.mem_of_getElem? (wat_get hi0))
          have e2 := cutW_size f2.v _ (List.mem_of_getElem? (wat_get hi1))
          show _ ∧ _
          unfold maxLen
          exact ⟨by omega, by omega, by omega⟩
        have hc0 := HST.out.cellS 0 hi0
        have hc1 := HST.out.cellS 1 hi1
        obtain ⟨t0, ht0⟩ : ∃ t, wat (cutW f2.v) 0 = t := ⟨_, rfl⟩
        obtain ⟨t1w, ht1⟩ : ∃ t, wat (cutW f2.v) 1 = t := ⟨_, rfl⟩
        rw [ht0] at HFR N0 SZ hc0
        rw [ht1] at HFR N1 SZ hc1
        obtain ⟨n0, hn0⟩ : ∃ t, rdN t0 = t := ⟨_, rfl⟩
        obtain ⟨n1, hn1⟩ : ∃ t, rdN t1w = t := ⟨_, rfl⟩
        obtain ⟨n2, hn2⟩ : ∃ t, rdN f3.v = t := ⟨_, rfl⟩
        rw [hn0] at HFR N0
        rw [hn1] at HFR N1
        rw [hn2] at HFR N2
        rw [hl2] at htl ⊢
        clear t2 t3 ht0 ht1 hn0 hn1 hn2 num hi0 hi1 hl2 d0 d1 HST
        have QS : Hid (∀ wx : World, Below w4.heap.size w4 wx → (wx.cell? ⟨w.heap.size, 0, none⟩ = some (.slice (some ⟨b, off, none⟩) ks.length ck) ∧ wx.cell? ⟨w.heap.size, 1, none⟩ = some (.slice pa pn pc) ∧ wx.cell? ⟨w.heap.size, 2, none⟩ = some (.slice ea en ec)) ∧ wx.cell? ⟨w.heap.size + 1, 0, none⟩ = some (.string nm) ∧ wx.cell? ⟨w.heap.size + 1, 1, none⟩ = some (.slice af fs.length cf) ∧ (wx.cell? ⟨b, off + q * 3, none⟩ = some (.string tr.s) ∧ wx.cell? ⟨b, off + q * 3 + 1, none⟩ = some (.int .i64 tr.x) ∧ wx.cell? ⟨b, off + q * 3 + 2, none⟩ = some (.int .i64 tr.y)) ∧ wx.cell? ⟨tg, toff, none⟩ = some (.string t0) ∧ wx.cell? ⟨tg, toff + 1, none⟩ = some (.string t1w)) := fun wx hx => by
          obtain ⟨g0, g1⟩ := Q0.out _ (below_step B4.out hx)
          exact ⟨⟨g0.1, g0.2.1, g0.2.2⟩, g1.1, g1.2, HKT2.out _ (below_step A1.out (below_step B4.out hx)), cell_keep hx (Nat.le_refl _) hc0, cell_keep hx (Nat.le_refl _) hc1⟩
        have HNB : Hid (b ≠ w.heap.size + 2 ∧ tg ≠ w.heap.size + 2) := by
          have e1 := lt_of_cell (HKT2.out w (Below.refl _ _)).1
          refine ⟨by omega, HNT.out⟩
        clear hc0 hc1 Q0
        go_wp2_with fail
        refine wp_region_noPanic ?_
        refine wp_region_held_drew (S := fun wx => (wx.cell? ⟨w.heap.size, 0, none⟩ = some (.slice (some ⟨b, off, none⟩) ks.length ck) ∧ wx.cell? ⟨w.heap.size, 1, none⟩ = some (.slice pa pn pc) ∧ wx.cell? ⟨w.heap.size, 2, none⟩ = some (.slice ea en ec)) ∧ wx.cell? ⟨w.heap.size + 1, 0, none⟩ = some (.string nm) ∧ wx.cell? ⟨w.heap.size + 1, 1, none⟩ = some (.slice af fs.length cf) ∧ (wx.cell? ⟨b, off + q * 3, none⟩ = some (.string tr.s) ∧ wx.cell? ⟨b, off + q * 3 + 1, none⟩ = some (.int .i64 tr.x) ∧ wx.cell? ⟨b, off + q * 3 + 2, none⟩ = some (.int .i64 tr.y)) ∧ wx.cell? ⟨tg, toff, none⟩ = some (.string t0) ∧ wx.cell? ⟨tg, toff + 1, none⟩ = some (.string t1w)) (by kernel_rfl) ?_ (fun hHeld => ?_)
        · exact QS.out _ (Below.refl _ _).drew
        have I4 : Hid (Below w4.heap.size w4 w4.drew ∧ Below w1.heap.size w1 w4.drew) := ⟨(Below.refl _ _).drew, below_step B4.out (Below.refl _ _).drew⟩
        generalize w4.drew = W at *
        refine wpAnyH_take (i := 0) (v := ?_) rfl (by kernel_rfl) (by kernel_rfl) (by kernel_rfl) (fun _ _ _ h => h) (Or.inl ⟨by rfl, ?_⟩) (by assumption) ?_
        rotate_left
        · intro w hSw; (try dsimp only at hSw); go_simp; try with_reducible rfl
        simp only [Act.put, List.setIfInBounds_toArray, List.set_cons_zero, List.set_cons_succ, List.getElem_toArray, List.getElem_cons_succ, List.getElem_cons_zero]
        refine wpAnyH_take (i := 1) (v := ?_) rfl (by kernel_rfl) (by kernel_rfl) (by kernel_rfl) (fun _ _ _ h => h) (Or.inl ⟨by rfl, ?_⟩) (by assumption) ?_
        rotate_left
        · intro w hSw; (try dsimp only at hSw); go_simp; try with_reducible rfl
        simp only [Act.put, List.setIfInBounds_toArray, List.set_cons_zero, List.set_cons_succ, List.getElem_toArray, List.getElem_cons_succ, List.getElem_cons_zero]
        refine wpAnyH_take (i := 2) (v := ?_) rfl (by kernel_rfl) (by kernel_rfl) (by kernel_rfl) (fun _ _ _ h => h) (Or.inl ⟨by rfl, ?_⟩) (by assumption) ?_
        rotate_left
        · intro w hSw; (try dsimp only at hSw); go_simp; try with_reducible rfl
        simp only [Act.put, List.setIfInBounds_toArray, List.set_cons_zero, List.set_cons_succ, List.getElem_toArray, List.getElem_cons_succ, List.getElem_cons_zero]
        refine wpAnyH_take (i := 3) (v := ?_) rfl (by kernel_rfl) (by kernel_rfl) (by kernel_rfl) (fun _ _ _ h => h) (Or.inl ⟨by rfl, ?_⟩) (by assumption) ?_
        rotate_left
        · intro w hSw; (try dsimp only at hSw); go_simp; try with_reducible rfl
        simp only [Act.put, List.setIfInBounds_toArray, List.set_cons_zero, List.set_cons_succ, List.getElem_toArray, List.getElem_cons_succ, List.getElem_cons_zero]
        refine wpAnyH_take (i := 4) (v := ?_) rfl (by kernel_rfl) (by kernel_rfl) (by kernel_rfl) (fun _ _ _ h => h) (Or.inl ⟨by rfl, ?_⟩) (by assumption) ?_
        rotate_left
        · intro w hSw; (try dsimp only at hSw); go_simp; try with_reducible rfl
        simp only [Act.put, List.setIfInBounds_toArray, List.set_cons_zero, List.set_cons_succ, List.getElem_toArray, List.getElem_cons_succ, List.getElem_cons_zero]
        refine wpAnyH_take (i := 5) (v := ?_) rfl (by kernel_rfl) (by kernel_rfl) (by kernel_rfl) (fun _ _ _ h => h) (Or.inl ⟨by rfl, ?_⟩) (by assumption) ?_
        rotate_left
        · intro w hSw; (try dsimp only at hSw); go_simp; try with_reducible rfl
        simp only [Act.put, List.setIfInBounds_toArray, List.set_cons_zero, List.set_cons_succ, List.getElem_toArray, List.getElem_cons_succ, List.getElem_cons_zero]
        refine wpAnyH_take (i := 6) (v := ?_) rfl (by kernel_rfl) (by kernel_rfl) (by kernel_rfl) (fun _ _ _ h => h) (Or.inl ⟨by rfl, ?_⟩) (by assumption) ?_
        rotate_left
        · intro w hSw; (try dsimp only at hSw); go_simp; try with_reducible rfl
        simp only [Act.put, List.setIfInBounds_toArray, List.set_cons_zero, List.set_cons_succ, List.getElem_toArray, List.getElem_cons_succ, List.getElem_cons_zero]
        refine wpAnyH_take (i := 7) (v := ?_) rfl (by kernel_rfl) (by kernel_rfl) (by kernel_rfl) (fun _ _ _ h => h) (Or.inl ⟨by rfl, ?_⟩) (by assumption) ?_
        rotate_left
        · intro w hSw; (try dsimp only at hSw); go_simp; try with_reducible rfl
        simp only [Act.put, List.setIfInBounds_toArray, List.set_cons_zero, List.set_cons_succ, List.getElem_toArray, List.getElem_cons_succ, List.getElem_cons_zero]
        refine wpAnyH_take (i := 12) (v := ?_) rfl (by kernel_rfl) (by kernel_rfl) (by kernel_rfl) (fun _ _ _ h => h) (Or.inl ⟨by rfl, ?_⟩) (by assumption) ?_
        rotate_left
        · intro w hSw; (try dsimp only at hSw); go_simp; try with_reducible rfl
        simp only [Act.put, List.setIfInBounds_toArray, List.set_cons_zero, List.set_cons_succ, List.getElem_toArray, List.getElem_cons_succ, List.getElem_cons_zero]
        refine wpAnyH_take (i := 13) (v := ?_) rfl (by kernel_rfl) (by kernel_rfl) (by kernel_rfl) (fun _ _ _ h => h) (Or.inl ⟨by rfl, ?_⟩) (by assumption) ?_
        rotate_left
        · intro w hSw; (try dsimp only at hSw); go_simp; try with_reducible rfl
        simp only [Act.put, List.setIfInBounds_toArray, List.set_cons_zero, List.set_cons_succ, List.getElem_toArray, List.getElem_cons_succ, List.getElem_cons_zero]
        refine wpAnyH_take (i := 14) (v := ?_) rfl (by kernel_rfl) (by kernel_rfl) (by kernel_rfl) (fun _ _ _ h => h) (Or.inl ⟨by rfl, ?_⟩) (by assumption) ?_
        rotate_left
        · intro w hSw; (try dsimp only at hSw); go_simp; try with_reducible rfl
        simp only [Act.put, List.setIfInBounds_toArray, List.set_cons_zero, List.set_cons_succ, List.getElem_toArray, List.getElem_cons_succ, List.getElem_cons_zero]
        refine wpAnyH_take (i := 16) (v := ?_) rfl (by kernel_rfl) (by kernel_rfl) (by kernel_rfl) (fun _ _ _ h => h) (Or.inl ⟨by rfl, ?_⟩) (by assumption) ?_
        rotate_left
        · intro w hSw; (try dsimp only at hSw); go_simp; try with_reducible rfl
        simp only [Act.put, List.setIfInBounds_toArray, List.set_cons_zero, List.set_cons_succ, List.getElem_toArray, List.getElem_cons_succ, List.getElem_cons_zero]
        refine wpAnyH_take (i := 17) (v := ?_) rfl (by kernel_rfl) (by kernel_rfl) (by kernel_rfl) (fun _ _ _ h => h) (Or.inl ⟨by rfl, ?_⟩) (by assumption) ?_
        rotate_left
        · intro w hSw; (try dsimp only at hSw); go_simp; try with_reducible rfl
        simp only [Act.put, List.setIfInBounds_toArray, List.set_cons_zero, List.set_cons_succ, List.getElem_toArray, List.getElem_cons_succ, List.getElem_cons_zero]
        refine wpAnyH_take (i := 18) (v := ?_) rfl (by kernel_rfl) (by kernel_rfl) (by kernel_rfl) (fun _ _ _ h => h) (Or.inl ⟨by rfl, ?_⟩) (by assumption) ?_
        rotate_left
        · intro w hSw; (try dsimp only at hSw); go_simp; try with_reducible rfl
        simp only [Act.put, List.setIfInBounds_toArray, List.set_cons_zero, List.set_cons_succ, List.getElem_toArray, List.getElem_cons_succ, List.getElem_cons_zero]
        refine wpAnyH_take (i := 20) (v := ?_) rfl (by kernel_rfl) (by kernel_rfl) (by kernel_rfl) (fun _ _ _ h => h) (Or.inl ⟨by rfl, ?_⟩) (by assumption) ?_
        rotate_left
        · intro w hSw; (try dsimp only at hSw); go_simp; try with_reducible rfl
        simp only [Act.put, List.setIfInBounds_toArray, List.set_cons_zero, List.set_cons_succ, List.getElem_toArray, List.getElem_cons_succ, List.getElem_cons_zero]
        refine wpAnyH_take (i := 23) (v := ?_) rfl (by kernel_rfl) (by kernel_rfl) (by kernel_rfl) (fun _ _ _ h => h) (Or.inl ⟨by rfl, ?_⟩) (by assumption) ?_
        rotate_left
        · intro w hSw; (try dsimp only at hSw); go_simp; try with_reducible rfl
        simp only [Act.put, List.setIfInBounds_toArray, List.set_cons_zero, List.set_cons_succ, List.getElem_toArray, List.getElem_cons_succ, List.getElem_cons_zero]
        clear hHeld
        refine wpAnyH_ready (rs := [8]) (by kernel_rfl) (by simp) ?_
        refine AllReadyH.cons rfl (fun K hK => ?_) AllReadyH.nil
        go_simp
        refine (GV.out 1 _ I4.out.2).mono ?_
        rw [HV.out.1.1]
        rintro e W5 ⟨rfl, hbz⟩
        have I5 : Hid (Below w4.heap.size w4 W5 ∧ Below w1.heap.size w1 W5) := ⟨below_step I4.out.1 hbz, below_step I4.out.2 hbz⟩
        have hHeld := QS.out _ I5.out.1
        refine hK.out _ _ hHeld (fun _ => ?_)
        clear hK K
        clear hbz I4
        clear hHeld
        refine wpAnyH_ready (rs := [9]) (by kernel_rfl) (by simp) ?_
        refine AllReadyH.cons rfl (fun K hK => ?_) AllReadyH.nil
        go_simp
        refine (l1Kind_any _ (.slice pa pn pc) ks f1.v _ (HK.out _ (below_step A1.out I5.out.2))).mono ?_
        rw [HAT.out]
        rintro e W6 ⟨rfl, hbz⟩
        have I6 : Hid (Below w4.heap.size w4 W6 ∧ Below w1.heap.size w1 W6) := ⟨below_step I5.out.1 hbz, below_step I5.out.2 hbz⟩
        have hHeld := QS.out _ I6.out.1
        refine hK.out _ _ hHeld (fun _ => ?_)
        clear hK K
        clear hbz I5
        refine wpAnyH_take (i := 10) (v := ?_) rfl (by kernel_rfl) (by kernel_rfl) (by kernel_rfl) (fun _ _ _ h => h) (Or.inl ⟨by rfl, ?_⟩) (by assumption) ?_
        rotate_left
        · intro w hSw; (try dsimp only at hSw); go_simp; try with_reducible rfl
        simp only [Act.put, List.setIfInBounds_toArray, List.set_cons_zero, List.set_cons_succ, List.getElem_toArray, List.getElem_cons_succ, List.getElem_cons_zero]
        refine wpAnyH_take (i := 11) (v := ?_) rfl (by kernel_rfl) (by kernel_rfl) (by kernel_rfl) (fun _ _ _ h => h) (Or.inl ⟨by rfl, ?_⟩) (by assumption) ?_
        rotate_left
        · intro w hSw; (try dsimp only at hSw); go_simp; try with_reducible rfl
        simp only [Act.put, List.setIfInBounds_toArray, List.set_cons_zero, List.set_cons_succ, List.getElem_toArray, List.getElem_cons_succ, List.getElem_cons_zero]
        clear hHeld
        refine wpAnyH_ready (rs := [15]) (by kernel_rfl) (by simp) ?_
        refine AllReadyH.cons rfl (fun K hK => ?_) AllReadyH.nil
        go_simp
        refine (l2Number_any t0 _ SZ.out.1).mono ?_
        rw [N0.out]
        rintro e Wz ⟨rfl, rfl⟩
        have hHeld := QS.out _ I6.out.1
        refine hK.out _ _ hHeld (fun _ => ?_)
        clear hK K
        clear hHeld
        refine wpAnyH_ready (rs := [19]) (by kernel_rfl) (by simp) ?_
        refine AllReadyH.cons rfl (fun K hK => ?_) AllReadyH.nil
        go_simp
        refine (l2Number_any t1w _ SZ.out.2.1).mono ?_
        rw [N1.out]
        rintro e Wz ⟨rfl, rfl⟩
        have hHeld := QS.out _ I6.out.1
        refine hK.out _ _ hHeld (fun _ => ?_)
        clear hK K
        clear hHeld
        refine wpAnyH_ready (rs := [21]) (by kernel_rfl) (by simp) ?_
        refine AllReadyH.cons rfl (fun K hK => ?_) AllReadyH.nil
        go_simp
        refine (GV.out 3 _ I6.out.2).mono ?_
        rw [HV.out.2.1]
        rintro e W7 ⟨rfl, hbz⟩
        have I7 : Hid (Below w4.heap.size w4 W7 ∧ Below w1.heap.size w1 W7) := ⟨below_step I6.out.1 hbz, below_step I6.out.2 hbz⟩
        have hHeld := QS.out _ I7.out.1
        refine hK.out _ _ hHeld (fun _ => ?_)
        clear hK K
        clear hbz I6
        clear hHeld
        refine wpAnyH_ready (rs := [22]) (by kernel_rfl) (by simp) ?_
        refine AllReadyH.cons rfl (fun K hK => ?_) AllReadyH.nil
        go_simp
        refine (l2Number_any f3.v _ SZ.out.2.2).mono ?_
        rw [N2.out]
        rintro e Wz ⟨rfl, rfl⟩
        have hHeld := QS.out _ I7.out.1
        refine hK.out _ _ hHeld (fun _ => ?_)
        clear hK K
        clear hHeld
        refine wpAnyH_ready (rs := [24]) (by kernel_rfl) (by simp) ?_
        refine AllReadyH.cons rfl (fun K hK => ?_) AllReadyH.nil
        go_simp
        refine (GV.out 4 _ I7.out.2).mono ?_
        rw [HV.out.2.2]
        rintro e W8 ⟨rfl, hbz⟩
        have I8 : Hid (Below w4.heap.size w4 W8 ∧ Below w1.heap.size w1 W8) := ⟨below_step I7.out.1 hbz, below_step I7.out.2 hbz⟩
        have hHeld := QS.out _ I8.out.1
        refine hK.out _ _ hHeld (fun _ => ?_)
        clear hK K
        clear hbz I7
        clear hHeld
        refine wpAnyH_ready (rs := [25]) (by kernel_rfl) (by simp) ?_
        refine AllReadyH.cons rfl (fun K hK => ?_) AllReadyH.nil
        go_simp
        refine (l2Cut_new f4.v _ HZ.out.2.2).mono ?_
        rintro e W9 ⟨rv, rfl, hst, hbz⟩
        have I9 : Hid (Below w4.heap.size w4 W9 ∧ Below w1.heap.size w1 W9) := ⟨below_step I8.out.1 hbz, below_step I8.out.2 hbz⟩
        have HRS : Hid (RtIs W9 w.heap.size rv (lastV fs 4)) := by
          show RtIs _ _ _ _
          rw [HL.out.2.2]
          exact SNew.mono hst (below_step A1.out I8.out.2).size
        obtain ⟨ra, rn, rc, rfl⟩ := HRS.out.slice
        have hHeld := QS.out _ I9.out.1
        refine hK.out _ _ hHeld (fun _ => ?_)
        clear hK K
        clear hbz hst I8
        refine wpAnyH_take (i := 26) (v := ?_) rfl (by kernel_rfl) (by kernel_rfl) (by kernel_rfl) (fun _ _ _ h => h) (Or.inl ⟨by rfl, ?_⟩) (by assumption) ?_
        rotate_left
        · intro w hSw; (try dsimp only at hSw); go_simp; try with_reducible rfl
        simp only [Act.put, List.setIfInBounds_toArray, List.set_cons_zero, List.set_cons_succ, List.getElem_toArray, List.getElem_cons_succ, List.getElem_cons_zero]
        clear hHeld
        refine wpAnyH_ready (rs := [27]) (by kernel_rfl) (by simp) ?_
        refine AllReadyH.cons rfl (fun K hK => ?_) AllReadyH.nil
        have HRW : Hid (W9.heap[w.heap.size + 2]? = some (.cells #[.string ⟨#[]⟩, .string ⟨#[]⟩, .int .i64 0, .int .i64 0, .int .i64 0, .int .i64 0, .int .i64 0, .slice none 0 0] 45 (0, 0))) := below_block I9.out.2 R1.out
        refine step_store_rowC rfl 45 _ _ rfl (w.heap.size + 2) #[.string nm, .string tr.s, .int .i64 tr.x, .int .i64 tr.y, .int .i64 n0, .int .i64 n1, .int .i64 n2, .slice ra rn rc] rfl rfl 45 _ HRW.out (by kernel_rfl) rfl (by simp [Value.oneCell']) ?_
        have HO : Hid (∀ q : Nat, q ≠ w.heap.size + 2 → (W9.setRow (w.heap.size + 2) #[.string nm, .string tr.s, .int .i64 tr.x, .int .i64 tr.y, .int .i64 n0, .int .i64 n1, .int .i64 n2, .slice ra rn rc]).heap[q]? = W9.heap[q]?) := fun q hq => setRow_other _ _ _ _ hq
        have HF : Hid ((W9.setRow (w.heap.size + 2) #[.string nm, .string tr.s, .int .i64 tr.x, .int .i64 tr.y, .int .i64 n0, .int .i64 n1, .int .i64 n2, .slice ra rn rc]).heap[w.heap.size + 2]? = some (.cells #[.string nm, .string tr.s, .int .i64 tr.x, .int .i64 tr.y, .int .i64 n0, .int .i64 n1, .int .i64 n2, .slice ra rn rc] 45 (0, 0))) := setRow_heap _ _ _ _ _ _ HRW.out
        have HBF : Hid (Below w.heap.size w (W9.setRow (w.heap.size + 2) #[.string nm, .string tr.s, .int .i64 tr.x, .int .i64 tr.y, .int .i64 n0, .int .i64 n1, .int .i64 n2, .slice ra rn rc])) := below_setRow (below_step A1.out I9.out.2) (by omega) _
        have HRF : Hid (RtIs (W9.setRow (w.heap.size + 2) #[.string nm, .string tr.s, .int .i64 tr.x, .int .i64 tr.y, .int .i64 n0, .int .i64 n1, .int .i64 n2, .slice ra rn rc]) w.heap.size (.slice ra rn rc) (lastV fs 4)) := RtIs.row HRS.out HRW.out
        have hHeld : ((W9.setRow (w.heap.size + 2) #[.string nm, .string tr.s, .int .i64 tr.x, .int .i64 tr.y, .int .i64 n0, .int .i64 n1, .int .i64 n2, .slice ra rn rc]).cell? ⟨w.heap.size, 0, none⟩ = some (.slice (some ⟨b, off, none⟩) ks.length ck) ∧ (W9.setRow (w.heap.size + 2) #[.string nm, .string tr.s, .int .i64 tr.x, .int .i64 tr.y, .int .i64 n0, .int .i64 n1, .int .i64 n2, .slice ra rn rc]).cell? ⟨w.heap.size, 1, none⟩ = some (.slice pa pn pc) ∧ (W9.setRow (w.heap.size + 2) #[.string nm, .string tr.s, .int .i64 tr.x, .int .i64 tr.y, .int .i64 n0, .int .i64 n1, .int .i64 n2, .slice ra rn rc]).cell? ⟨w.heap.size, 2, none⟩ = some (.slice ea en ec)) ∧ (W9.setRow (w.heap.size + 2) #[.string nm, .string tr.s, .int .i64 tr.x, .int .i64 tr.y, .int .i64 n0, .int .i64 n1, .int .i64 n2, .slice ra rn rc]).cell? ⟨w.heap.size + 1, 0, none⟩ = some (.string nm) ∧ (W9.setRow (w.heap.size + 2) #[.string nm, .string tr.s, .int .i64 tr.x, .int .i64 tr.y, .int .i64 n0, .int .i64 n1, .int .i64 n2, .slice ra rn rc]).cell? ⟨w.heap.size + 1, 1, none⟩ = some (.slice af fs.length cf) ∧ ((W9.setRow (w.heap.size + 2) #[.string nm, .string tr.s, .int .i64 tr.x, .int .i64 tr.y, .int .i64 n0, .int .i64 n1, .int .i64 n2, .slice ra rn rc]).cell? ⟨b, off + q * 3, none⟩ = some (.string tr.s) ∧ (W9.setRow (w.heap.size + 2) #[.string nm, .string tr.s, .int .i64 tr.x, .int .i64 tr.y, .int .i64 n0, .int .i64 n1, .int .i64 n2, .slice ra rn rc]).cell? ⟨b, off + q * 3 + 1, none⟩ = some (.int .i64 tr.x) ∧ (W9.setRow (w.heap.size + 2) #[.string nm, .string tr.s, .int .i64 tr.x, .int .i64 tr.y, .int .i64 n0, .int .i64 n1, .int .i64 n2, .slice ra rn rc]).cell? ⟨b, off + q * 3 + 2, none⟩ = some (.int .i64 tr.y)) ∧ (W9.setRow (w.heap.size + 2) #[.string nm, .string tr.s, .int .i64 tr.x, .int .i64 tr.y, .int .i64 n0, .int .i64 n1, .int .i64 n2, .slice ra rn rc]).cell? ⟨tg, toff, none⟩ = some (.string t0) ∧ (W9.setRow (w.heap.size + 2) #[.string nm, .string tr.s, .int .i64 tr.x, .int .i64 tr.y, .int .i64 n0, .int .i64 n1, .int .i64 n2, .slice ra rn rc]).cell? ⟨tg, toff + 1, none⟩ = some (.string t1w) := by
          obtain ⟨⟨g0, g1, g2⟩, g3, g4, ⟨g5, g6, g7⟩, g8, g9⟩ := QS.out _ I9.out.1
          have hb : b ≠ w.heap.size + 2 := HNB.out.1
          have ht : tg ≠ w.heap.size + 2 := HNB.out.2
          have kp : ∀ (x y : Nat) (v : Value), x ≠ w.heap.size + 2 → W9.cell? ⟨x, y, none⟩ = some v → (W9.setRow (w.heap.size + 2) #[.string nm, .string tr.s, .int .i64 tr.x, .int .i64 tr.y, .int .i64 n0, .int .i64 n1, .int .i64 n2, .slice ra rn rc]).cell? ⟨x, y, none⟩ = some v := fun x y v hx h => (World.cell?_of_block (HO.out x hx)).trans h
          exact ⟨⟨kp _ _ _ (by omega) g0, kp _ _ _ (by omega) g1, kp _ _ _ (by omega) g2⟩, kp _ _ _ (by omega) g3, kp _ _ _ (by omega) g4, ⟨kp _ _ _ hb g5, kp _ _ _ hb g6, kp _ _ _ hb g7⟩, kp _ _ _ ht g8, kp _ _ _ ht g9⟩
        generalize (W9.setRow (w.heap.size + 2) #[.string nm, .string tr.s, .int .i64 tr.x, .int .i64 tr.y, .int .i64 n0, .int .i64 n1, .int .i64 n2, .slice ra rn rc]) = wf at *
        refine hK.out _ _ hHeld (fun _ => ?_)
        clear hK K
        refine wpAnyH_take (i := 28) (v := ?_) rfl (by kernel_rfl) (by kernel_rfl) (by kernel_rfl) (fun _ _ _ h => h) (Or.inl ⟨by rfl, ?_⟩) (by assumption) ?_
        rotate_left
        · intro w hSw; (try dsimp only at hSw); go_simp; try with_reducible rfl
        simp only [Act.put, List.setIfInBounds_toArray, List.set_cons_zero, List.set_cons_succ, List.getElem_toArray, List.getElem_cons_succ, List.getElem_cons_zero]
        clear hHeld
        have hf := HF.out
        refine wpAnyH_done (by kernel_rfl) ?_ _
        refine NoPanic.normal ?_
        go_wp2
        have y0 : wf.cell? ⟨w.heap.size + 2, 0, none⟩ = some (.string nm) := by simp [World.cell?, hf]
        have y1 : wf.cell? ⟨w.heap.size + 2, 1, none⟩ = some (.string tr.s) := by simp [World.cell?, hf]
        have y2 : wf.cell? ⟨w.heap.size + 2, 2, none⟩ = some (.int .i64 tr.x) := by simp [World.cell?, hf]
        have y3 : wf.cell? ⟨w.heap.size + 2, 3, none⟩ = some (.int .i64 tr.y) := by simp [World.cell?, hf]
        have y4 : wf.cell? ⟨w.heap.size + 2, 4, none⟩ = some (.int .i64 n0) := by simp [World.cell?, hf]
        have y5 : wf.cell? ⟨w.heap.size + 2, 5, none⟩ = some (.int .i64 n1) := by simp [World.cell?, hf]
        have y6 : wf.cell? ⟨w.heap.size + 2, 6, none⟩ = some (.int .i64 n2) := by simp [World.cell?, hf]
        have y7 : wf.cell? ⟨w.heap.size + 2, 7, none⟩ = some (.slice ra rn rc) := by simp [World.cell?, hf]
        have HOO : Hid (stC ks nm fs (.slice ra rn rc) = #[.string nm, .string tr.s, .int .i64 tr.x, .int .i64 tr.y, .int .i64 n0, .int .i64 n1, .int .i64 n2, .slice ra rn rc]) := by
          show _ = _
          rw [HS.out]
          unfold flO flC
          rw [HKD.out, HFR.out.1.1, HFR.out.1.2, HFR.out.2]
        exact bodyPost_ret (v := .tuple #[.agg #[.string nm, .string tr.s, .int .i64 tr.x, .int .i64 tr.y, .int .i64 n0, .int .i64 n1, .int .i64 n2, .slice ra rn rc], .bool true]) (by simp [results, Tryz.results31, go_sem, y0, y1, y2, y3, y4, y5, y6, y7]) rfl ⟨.slice ra rn rc, by rw [HOO.out, HE.out], (fun _ => HRF.out), HBF.out⟩

      · rw [hc] at hcl
        have HE : Hid (stB fs = false) := by show _ = _; unfold stB; rw [hc]; simp
        have HS : Hid (∀ rt, stC ks nm fs rt = #[.string ⟨#[]⟩, .string ⟨#[]⟩, .int .i64 0, .int .i64 0, .int .i64 0, .int .i64 0, .int .i64 0, .slice none 0 0]) := fun rt => by unfold stC; rw [HE.out]; rfl
        have hR := below_block B2.out R1.out
        clear hc
        go_wp2_with (refine wpList_store_row rfl 45 _ _ rfl (w.heap.size + 2) #[.string ⟨#[]⟩, .string ⟨#[]⟩, .int .i64 0, .int .i64 0, .int .i64 0, .int .i64 0, .int .i64 0, .slice none 0 0] rfl rfl 45 _ hR (by kernel_rfl) rfl (by simp [Value.oneCell']) ?_)
        exact bodyPost_ret (v := .tuple #[.agg #[.string ⟨#[]⟩, .string ⟨#[]⟩, .int .i64 0, .int .i64 0, .int .i64 0, .int .i64 0, .int .i64 0, .slice none 0 0], .bool false]) (by simp [results, Tryz.results31, go_sem, cell_setRow_same _ _ _ _ _ _ _ hR]) rfl ⟨.slice none 0 0, by rw [HE.out, HS.out], (fun h => by rw [HE.out] at h; cases h), below_setRow (below_step A1.out B2.out) (by omega) _⟩
end Go.Proofs.YtfjblenkcfdbiaaGreatDoor.Sd
