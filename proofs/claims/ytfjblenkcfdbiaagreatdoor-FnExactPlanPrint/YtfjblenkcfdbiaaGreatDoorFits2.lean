
/-
  impl: the rules of times and routes.
-/
import Derived.Test.YtfjblenkcfdbiaaGreatDoorFits1
import Derived.Test.YtfjblenkcfdbiaaGreatDoorLater
import Derived.Deep.RegionHeld3
namespace Go.Proofs.YtfjblenkcfdbiaaGreatDoor
open Go.RowKit
set_option linter.unusedSimpArgs false
set_option linter.unusedVariables false
attribute [local go_sem] Later.cell Later.frozen

theorem StrsAt.cell {w : World} {g off n cap : Nat} {ws : List ByteArray} (h : StrsAt w (.slice (some ⟨g, off, none⟩) n cap) ws) (i : Nat) (hi : i < ws.length) : w.cell? ⟨g, off + i, none⟩ = some (.string (wat ws i)) := by
  obtain ⟨g', off', cap', e, _, _, hc⟩ := h
  cases e
  exact hc i _ (wat_get hi)

def rdN (x : ByteArray) : Int := bif decB x then (numV x : Int) else 0
def tmF (ws : List ByteArray) : Int := bif decide (ws.length = 2) then rdN (wat ws 0) else 0
def tmY (ws : List ByteArray) : Int := bif decide (ws.length = 2) then rdN (wat ws 1) else 0
def tmO (ws : List ByteArray) : Bool := decide (ws.length = 2) && (decB (wat ws 0) && decB (wat ws 1))
theorem timeB_tm (ws : List ByteArray) : timeB ws = (tmO ws && (decide (tmF ws ≤ tmY ws) && decide (tmY ws ≤ 10000))) := by
  unfold timeB tmO tmF tmY rdN
  by_cases h : ws.length = 2
  · have e1 : decide (((numV (wat ws 0) : Nat) : Int) ≤ ((numV (wat ws 1) : Nat) : Int)) = decide (numV (wat ws 0) ≤ numV (wat ws 1)) := by rw [Bool.eq_iff_iff]; simp
    have e2 : decide (((numV (wat ws 1) : Nat) : Int) ≤ 10000) = decide (numV (wat ws 1) ≤ 10000) := by rw [Bool.eq_iff_iff]; simp; omega
    simp only [h, decide_true, Bool.true_and, cond_true]
    cases decB (wat ws 0) <;> cases decB (wat ws 1) <;> simp only [cond_true, cond_false, e1, e2, Bool.true_and, Bool.false_and, Bool.and_false]
  · simp [h]

set_option maxHeartbeats 1600000 in
theorem readTimes_any (s : ByteArray) (w : World) (hs : s.size ≤ 1048576) :
    Calls Tryz.prog 117 #[.string s] w fun e w' => e = .returned (.tuple #[.int .i64 (tmF (cutW s)), .int .i64 (tmY (cutW s)), .bool (tmO (cutW s))]) ∧ Below w.heap.size w w' := by
  have HRD : Hid (∀ (x : ByteArray) (wx : World), x.size ≤ s.size → Calls Tryz.prog 118 #[.string x] wx fun e w' => e = .returned (.tuple #[.int .i64 (rdN x), .bool (decB x)]) ∧ Below wx.heap.size wx w') := fun x wx hx => readDecimal_any x wx (by unfold maxLen; omega)
  have HSZ : Hid (∀ i, i < (cutW s).length → (wat (cutW s) i).size ≤ s.size) := fun i hi => wat_size hi
  have HWD : Hid (∀ wx : World, Calls Tryz.prog 131 #[.string s] wx fun e w' => ∃ v, e = .returned v ∧ StrsAt w' v (cutW s) ∧ Below wx.heap.size wx w') := fun wx => wordsOf_any s wx hs
  generalize cutW s = ws at *
  go_enter Tryz.func117, Tryz.ntmps117
  go_wp2_with fail
  refine (HWD.out _).mono ?_
  rintro e w1 ⟨v, rfl, hst, hb1⟩
  have HST : Hid (StrsAt w1 v ws) := hst
  obtain ⟨g, off, cap, rfl, hlc, hcm, -⟩ := hst
  have HB1 : Hid (Below w.heap.size w w1) := hb1
  clear hb1
  by_cases h2 : ws.length = 2
  · have h2' : (((ws.length : Nat) : Int) == 2) = true := by simp [h2]
    have h2i : (1 : Int) < ((ws.length : Nat) : Int) := by omega
    have h2j : 1 < ws.length := by omega
    have h2k : 0 < ws.length := by omega
    have c0 : w1.cell? ⟨g, off + 0, none⟩ = some (.string (wat ws 0)) := HST.out.cell 0 (by omega)
    have c1 : w1.cell? ⟨g, off + 1, none⟩ = some (.string (wat ws 1)) := HST.out.cell 1 (by omega)
    simp only [Nat.add_zero] at c0
    have HF : Hid (tmF ws = rdN (wat ws 0)) := by show tmF ws = _; unfold tmF; simp [h2]
    have HY : Hid (tmY ws = rdN (wat ws 1)) := by show tmY ws = _; unfold tmY; simp [h2]
    have HO : Hid (tmO ws = (decB (wat ws 0) && decB (wat ws 1))) := by show tmO ws = _; unfold tmO; simp [h2]
    have Z0 : Hid ((wat ws 0).size ≤ s.size) := HSZ.out 0 (by omega)
    have Z1 : Hid ((wat ws 1).size ≤ s.size) := HSZ.out 1 (by omega)
    clear HST HSZ h2 HWD
    generalize wat ws 0 = x0 at *
    generalize wat ws 1 = x1 at *
    go_wp2_with fail
    refine (HRD.out x0 _ Z0.out).mono ?_
    rintro e w2 ⟨rfl, hb2⟩
    have d1 := cell_keep hb2 (Nat.le_refl _) c1
    go_wp2_with fail
    refine (HRD.out x1 _ Z1.out).mono ?_
    rintro e w3 ⟨rfl, hb3⟩
    have HB : Hid (Below w.heap.size w w3) := below_step (below_step HB1.out hb2) hb3
    clear hb2 hb3 HRD c0 c1 d1
    generalize decB x0 = b0 at *
    generalize decB x1 = b1 at *
    cases b0
    · go_wp2
      exact bodyPost_ret (v := .tuple #[.int .i64 (rdN x0), .int .i64 (rdN x1), .bool false]) (by simp [results, Tryz.results117, go_sem]) rfl ⟨by rw [HF.out, HY.out, HO.out]; rfl, HB.out⟩
    · cases b1
      · go_wp2
        exact bodyPost_ret (v := .tuple #[.int .i64 (rdN x0), .int .i64 (rdN x1), .bool false]) (by simp [results, Tryz.results117, go_sem]) rfl ⟨by rw [HF.out, HY.out, HO.out]; rfl, HB.out⟩
      · go_wp2
        exact bodyPost_ret (v := .tuple #[.int .i64 (rdN x0), .int .i64 (rdN x1), .bool true]) (by simp [results, Tryz.results117, go_sem]) rfl ⟨by rw [HF.out, HY.out, HO.out]; rfl, HB.out⟩
  · have h2' : (((ws.length : Nat) : Int) == 2) = false := by simp; omega
    have HF : Hid (tmF ws = 0) := by show tmF ws = _; unfold tmF; simp [h2]
    have HY : Hid (tmY ws = 0) := by show tmY ws = _; unfold tmY; simp [h2]
    have HO : Hid (tmO ws = false) := by show tmO ws = _; unfold tmO; simp [h2]
    go_wp2
    exact bodyPost_ret (v := .tuple #[.int .i64 (0), .int .i64 (0), .bool false]) (by simp [results, Tryz.results117, go_sem]) rfl ⟨by rw [HF.out, HY.out, HO.out], HB1.out⟩

set_option maxHeartbeats 1600000 in
theorem timeRule_any (vk vp : Value) (s : ByteArray) (w : World) (hs : s.size ≤ 1048576) :
    Calls Tryz.prog 168 #[.agg #[], .agg #[vk, vp], .string s] w fun e w' => e = .returned (.bool (timeB (cutW s))) ∧ Below w.heap.size w w' := by
  have HRT := fun wx => readTimes_any s wx hs
  have HE : Hid (timeB (cutW s) = (tmO (cutW s) && (decide (tmF (cutW s) ≤ tmY (cutW s)) && decide (tmY (cutW s) ≤ 10000)))) := timeB_tm _
  have HR : Hid (∀ wx : World, Calls Tryz.prog 117 #[.string s] wx fun e w' => e = .returned (.tuple #[.int .i64 (tmF (cutW s)), .int .i64 (tmY (cutW s)), .bool (tmO (cutW s))]) ∧ Below wx.heap.size wx w') := HRT
  clear HRT
  generalize timeB (cutW s) = r at *
  generalize tmO (cutW s) = o at *
  generalize tmF (cutW s) = n0 at *
  generalize tmY (cutW s) = n1 at *
  go_enter Tryz.func168, Tryz.ntmps168
  go_wp2_with fail
  refine (HR.out _).mono ?_
  rintro e w1 ⟨rfl, hb1⟩
  have HB : Hid (Below w.heap.size w w1) := below_step (((Below.refl _ _).alloc (Nat.le_refl _) _).alloc (by simp) _) hb1
  clear hb1
  cases o
  · go_wp2
    go_ret
    exact ⟨ret_bool (by rw [HE.out]; rfl), HB.out⟩
  · by_cases h3 : n0 ≤ n1
    · by_cases h4 : n1 ≤ 10000
      · go_wp2
        go_ret
        exact ⟨ret_bool (by rw [HE.out]; simp; omega), HB.out⟩
      · go_wp2
        go_ret
        exact ⟨ret_bool (by rw [HE.out]; simp; omega), HB.out⟩
    · go_wp2
      go_ret
      exact ⟨ret_bool (by rw [HE.out]; simp; omega), HB.out⟩

theorem routeB_no {ps : List Tri} {ws : List ByteArray} (h : inB ws.length 2 8 = false) : routeB ps ws = false := by unfold routeB; rw [h]; rfl
theorem routeB_yes {ps : List Tri} {ws : List ByteArray} (h : inB ws.length 2 8 = true) : routeB ps ws = allB ws.length (stepB ps ws) := by unfold routeB; rw [h]; rfl

set_option maxHeartbeats 1600000 in
theorem routeFits_any (vk vp v : Value) (ps : List Tri) (ws : List ByteArray) (w : World) (hp : TrisAt w vp ps) (hst0 : StrsAt w v ws) :
    Calls Tryz.prog 171 #[.agg #[vk, vp], v] w fun e w' => e = .returned (.bool (routeB ps ws)) ∧ Below w.heap.size w w' := by
  have HHP : Hid (∀ (x : ByteArray) (wx : World), Below w.heap.size w wx → Calls Tryz.prog 172 #[vp, .string x, .func (.func 108) #[] #[]] wx fun e w' => e = .returned (.tuple #[.int .i64 (plc ps x : Nat), .bool (hasB ps x)]) ∧ Below wx.heap.size wx w') := fun x wx hx => placePoint_any vp ps x wx (hp.keep hx)
  clear hp
  have HB1 : Hid (Below w.heap.size w (w.alloc (.cells #[vk, vp] 34))) := (Below.refl _ _).alloc (Nat.le_refl _) _
  have hst := hst0.keep HB1.out
  have HST : Hid (StrsAt (w.alloc (.cells #[vk, vp] 34)) v ws) := hst
  clear hst0
  obtain ⟨g, off, cap, rfl, hlc, hcm, -⟩ := hst
  have p0 : (w.alloc (.cells #[vk, vp] 34)).cell? ⟨w.heap.size, 0, none⟩ = some vk := by simp [go_sem]
  have p1 : (w.alloc (.cells #[vk, vp] 34)).cell? ⟨w.heap.size, 1, none⟩ = some vp := by simp [go_sem]
  unfold maxLen at hcm
  go_enter Tryz.func171, Tryz.ntmps171
  by_cases h1 : (ws.length : Int) < 2
  · have HE : Hid (routeB ps ws = false) := routeB_no (by simp [inB]; omega)
    go_wp2
    go_ret
    exact ⟨ret_bool HE.out.symm, HB1.out⟩
  by_cases h2 : (8 : Int) < (ws.length : Int)
  · have HE : Hid (routeB ps ws = false) := routeB_no (by simp [inB]; omega)
    go_wp2
    go_ret
    exact ⟨ret_bool HE.out.symm, HB1.out⟩
  have HE : Hid (routeB ps ws = allB ws.length (stepB ps ws)) := routeB_yes (by simp [inB]; omega)
  have Q0 : Hid ((w.alloc (.cells #[vk, vp] 34)).cell? ⟨w.heap.size, 0, none⟩ = some vk ∧ (w.alloc (.cells #[vk, vp] 34)).cell? ⟨w.heap.size, 1, none⟩ = some vp) := ⟨p0, p1⟩
  clear p0 p1
  go_wp2_with fail
  generalize (w.alloc (.cells #[vk, vp] 34)) = w1 at *
  go_loopw [5, 6, 19] (fun _ _ i wr => ∃ k : Nat, k ≤ ws.length ∧ i = .int .i64 k ∧ Below w1.heap.size w1 wr ∧ Hid (∀ j, j < k → stepB ps ws j = true)) (fun _ _ i _ => ws.length - (intOf i).toNat)
  case atStart => exact ⟨0, Nat.zero_le _, rfl, Below.refl _ _, fun j hj => absurd hj (Nat.not_lt_zero _)⟩
  case round =>
    obtain ⟨k, hk, rfl, hb, HA⟩ := hrel
    by_cases hlt : k < ws.length
    · have c0 : wr.cell? ⟨g, off + k, none⟩ = some (.string (wat ws k)) := (HST.out.keep hb).cell k hlt
      have p0 := cell_keep hb (Nat.le_refl _) Q0.out.1
      have p1 := cell_keep hb (Nat.le_refl _) Q0.out.2
      have hk0 : (0 : Int) ≤ (k : Int) := by omega
      have hk1 : (k : Int) < (ws.length : Int) := by omega
      cases hh : hasB ps (wat ws k)
      · have HH : Hid (hasB ps (wat ws k) = false) := hh
        clear hh
        go_wp2_with fail
        refine (HHP.out (wat ws k) _ (below_step HB1.out hb)).mono ?_
        rw [HH.out]
        rintro e w2 ⟨rfl, hb2⟩
        go_wp2
        go_ret
        exact ⟨ret_bool (by rw [HE.out]; exact (allB_false hlt (by unfold stepB; rw [HH.out]; rfl)).symm), below_step (below_step HB1.out hb) hb2⟩
      · have HH : Hid (hasB ps (wat ws k) = true) := hh
        clear hh
        by_cases hz : 0 < k
        · have c1 : wr.cell? ⟨g, off + (k - 1), none⟩ = some (.string (wat ws (k - 1))) := (HST.out.keep hb).cell (k - 1) (by omega)
          by_cases hx : wat ws (k - 1) = wat ws k
          · have hq : ((wat ws (k - 1)).toList == (wat ws k).toList) = true := str_eq hx
            have HX : Hid (stepB ps ws k = false) := by show stepB ps ws k = false; unfold stepB; simp [hx, hz]
            clear hx
            go_wp2_with fail
            refine (HHP.out (wat ws k) _ (below_step HB1.out hb)).mono ?_
            rw [HH.out]
            rintro e w2 ⟨rfl, hb2⟩
            have c2 := cell_keep hb2 (Nat.le_refl _) c1
            go_wp2
            go_ret
            exact ⟨ret_bool (by rw [HE.out]; exact (allB_false hlt HX.out).symm), below_step (below_step HB1.out hb) hb2⟩
          · have hq : ((wat ws (k - 1)).toList == (wat ws k).toList) = false := str_ne hx
            have HX : Hid (stepB ps ws k = true) := by show stepB ps ws k = true; unfold stepB; rw [HH.out]; simp [hx]
            clear hx
            go_wp2_with fail
            refine (HHP.out (wat ws k) _ (below_step HB1.out hb)).mono ?_
            rw [HH.out]
            rintro e w2 ⟨rfl, hb2⟩
            have c2 := cell_keep hb2 (Nat.le_refl _) c1
            go_wp2
            exact ⟨⟨k + 1, by omega, by go_num, below_step hb hb2, fun j hj => if e : j = k then by rw [e]; exact HX.out else HA.out j (by omega)⟩, by simp [intOf]; omega⟩
        · have HX : Hid (stepB ps ws k = true) := by show stepB ps ws k = true; unfold stepB; rw [HH.out]; simp [hz]
          go_wp2_with fail
          refine (HHP.out (wat ws k) _ (below_step HB1.out hb)).mono ?_
          rw [HH.out]
          rintro e w2 ⟨rfl, hb2⟩
          go_wp2
          exact ⟨⟨k + 1, by omega, by go_num, below_step hb hb2, fun j hj => if e : j = k then by rw [e]; exact HX.out else HA.out j (by omega)⟩, by simp [intOf]; omega⟩
    · go_wp2
      go_ret
      exact ⟨ret_bool (by rw [HE.out]; exact (allB_true fun j hj => HA.out j (by omega)).symm), below_step HB1.out hb⟩
set_option maxHeartbeats 1600000 in
theorem routeRule_any (vk vp : Value) (ps : List Tri) (s : ByteArray) (w : World) (hs : s.size ≤ 1048576) (hp : TrisAt w vp ps) :
    Calls Tryz.prog 170 #[.agg #[], .agg #[vk, vp], .string s] w fun e w' => e = .returned (.bool (routeB ps (cutW s))) ∧ Below w.heap.size w w' := by
  have HWD : Hid (∀ wx : World, Calls Tryz.prog 131 #[.string s] wx fun e w' => ∃ v, e = .returned v ∧ StrsAt w' v (cutW s) ∧ Below wx.heap.size wx w') := fun wx => wordsOf_any s wx hs
  generalize cutW s = ws at *
  have HRF : Hid (∀ (v : Value) (wx : World), Below w.heap.size w wx → StrsAt wx v ws → Calls Tryz.prog 171 #[.agg #[vk, vp], v] wx fun e w' => e = .returned (.bool (routeB ps ws)) ∧ Below wx.heap.size wx w') := fun v wx hx hv => routeFits_any vk vp v ps ws wx (hp.keep hx) hv
  clear hp
  have HAL : Hid (Below w.heap.size w ((w.alloc (.cells #[] 214)).alloc (.cells #[vk, vp] 34))) := ((Below.refl _ _).alloc (Nat.le_refl _) _).alloc (by simp) _
  have p0 : ((w.alloc (.cells #[] 214)).alloc (.cells #[vk, vp] 34)).cell? ⟨w.heap.size + 1, 0, none⟩ = some vk := by simp [go_sem]
  have p1 : ((w.alloc (.cells #[] 214)).alloc (.cells #[vk, vp] 34)).cell? ⟨w.heap.size + 1, 1, none⟩ = some vp := by simp [go_sem]
  go_enter Tryz.func170, Tryz.ntmps170
  go_wp2_with fail
  generalize ((w.alloc (.cells #[] 214)).alloc (.cells #[vk, vp] 34)) = w1 at *
  refine wp_region_noPanic ?_
  refine wp_region_held_drew (S := fun w' => w'.cell? ⟨w.heap.size + 1, 0, none⟩ = some vk ∧ w'.cell? ⟨w.heap.size + 1, 1, none⟩ = some vp) (by kernel_rfl) ?_ (fun hHeld => ?_)
  · exact ⟨cell_keep (Below.refl _ _).drew (Nat.le_refl _) p0, cell_keep (Below.refl _ _).drew (Nat.le_refl _) p1⟩
  have HBW : Hid (Below w.heap.size w w1.drew) := below_step HAL.out (Below.refl _ _).drew
  have Q0 : Hid (∀ wx : World, Below w1.heap.size w1 wx → wx.cell? ⟨w.heap.size + 1, 0, none⟩ = some vk ∧ wx.cell? ⟨w.heap.size + 1, 1, none⟩ = some vp) := fun wx hx => ⟨cell_keep hx (Nat.le_refl _) p0, cell_keep hx (Nat.le_refl _) p1⟩
  have HB1 : Hid (Below w1.heap.size w1 w1.drew) := (Below.refl _ _).drew
  clear p0 p1
  refine wpAnyH_take (i := 0) (v := ?_) rfl (by kernel_rfl) (by kernel_rfl) (by kernel_rfl) (fun _ _ _ h => h) (Or.inl ⟨by rfl, ?_⟩) (by assumption) ?_
  rotate_left
  · intro w hSw; (try dsimp only at hSw); go_simp; try with_reducible rfl
  simp only [Act.put, List.setIfInBounds_toArray, List.set_cons_zero, List.set_cons_succ, List.getElem_toArray, List.getElem_cons_succ, List.getElem_cons_zero]
  refine wpAnyH_take (i := 1) (v := ?_) rfl (by kernel_rfl) (by kernel_rfl) (by kernel_rfl) (fun _ _ _ h => h) (Or.inl ⟨by rfl, ?_⟩) (by assumption) ?_
  rotate_left
  · intro w hSw; (try dsimp only at hSw); go_simp; try with_reducible rfl
  simp only [Act.put, List.setIfInBounds_toArray, List.set_cons_zero, List.set_cons_succ, List.getElem_toArray, List.getElem_cons_succ, List.getElem_cons_zero]
  clear hHeld
  refine wpAnyH_ready (rs := [2]) (by kernel_rfl) (by simp) ?_
  refine AllReadyH.cons rfl (fun K hK => ?_) AllReadyH.nil
  go_simp
  refine (HWD.out _).mono ?_
  rintro e w2 ⟨v, rfl, hst, hb2⟩
  have HB2 : Hid (Below w1.heap.size w1 w2) := below_step HB1.out hb2
  have HC2 : Hid (Below w.heap.size w w2) := below_step HBW.out hb2
  have HST : Hid (StrsAt w2 v ws) := hst
  obtain ⟨g, off, cap, rfl, hlc, hcm, -⟩ := hst
  refine hK.out _ _ (Q0.out _ HB2.out) (fun _ => ?_)
  clear hK K hb2 HBW HB1
  refine wpAnyH_ready (rs := [3]) (by kernel_rfl) (by simp) ?_
  refine AllReadyH.cons rfl (fun K hK => ?_) AllReadyH.nil
  go_simp
  refine (HRF.out _ _ HC2.out HST.out).mono ?_
  rintro e w3 ⟨rfl, hb3⟩
  have HB3 : Hid (Below w1.heap.size w1 w3) := below_step HB2.out hb3
  have HC3 : Hid (Below w.heap.size w w3) := below_step HC2.out hb3
  have hHeld := Q0.out _ HB3.out
  refine hK.out _ _ hHeld (fun _ => ?_)
  clear hK K
  refine wpAnyH_take (i := 4) (v := ?_) rfl (by kernel_rfl) (by kernel_rfl) (by kernel_rfl) (fun _ _ _ h => h) (Or.inl ⟨by rfl, ?_⟩) (by assumption) ?_
  rotate_left
  · intro w hSw; (try dsimp only at hSw); go_simp; try with_reducible rfl
  simp only [Act.put, List.setIfInBounds_toArray, List.set_cons_zero, List.set_cons_succ, List.getElem_toArray, List.getElem_cons_succ, List.getElem_cons_zero]
  clear hHeld
  refine wpAnyH_done (by kernel_rfl) ?_ _
  refine NoPanic.normal ?_
  go_wp2
  go_ret
  exact ⟨rfl, HC3.out⟩
end Go.Proofs.YtfjblenkcfdbiaaGreatDoor
