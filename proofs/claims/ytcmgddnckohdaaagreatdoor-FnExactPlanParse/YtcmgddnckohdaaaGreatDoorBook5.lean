import Derived.Test.YtcmgddnckohdaaaGreatDoorFits1
import Derived.Test.YtcmgddnckohdaaaGreatDoorTkH
set_option linter.unusedSimpArgs false
set_option linter.unusedVariables false
namespace Go.Proofs.YtcmgddnckohdaaaGreatDoor
open Go.RowKit
attribute [local go_sem] Later.cell Later.frozen
theorem StrsAt.cell {w : World} {g off n cap : Nat} {ws : List ByteArray} (h : StrsAt w (.slice (some ⟨g, off, none⟩) n cap) ws) (i : Nat) (hi : i < ws.length) : w.cell? ⟨g, off + i, none⟩ = some (.string (wat ws i)) := by
 obtain ⟨g', off', cap', e, _, _, hc⟩ := h
 cases e
 exact hc i _ (wat_get hi)
def rdN (x : ByteArray) : Int := bif decB x then (numV x : Int) else 0
def tmF (ws : List ByteArray) : Int := bif decide (ws.length = 2) then rdN (wat ws 0) else 0
def tmY (ws : List ByteArray) : Int := bif decide (ws.length = 2) then rdN (wat ws 1) else 0
def tmO (ws : List ByteArray) : Bool := decide (ws.length = 2) && (decB (wat ws 0) && decB (wat ws 1))
theorem timeB_tm (ws : List ByteArray) : timeB ws = (tmO ws && (decide (tmF ws ≤ tmY ws) && decide (tmY ws ≤ 10000))) := by
 unfold timeB tmO tmF tmY rdN
 by_cases h : ws.length = 2
 ·have e1 : decide (((numV (wat ws 0) : Nat) : Int) ≤ ((numV (wat ws 1) : Nat) : Int)) = decide (numV (wat ws 0) ≤ numV (wat ws 1)) := by rw [Bool.eq_iff_iff]; simp
  have e2 : decide (((numV (wat ws 1) : Nat) : Int) ≤ 10000) = decide (numV (wat ws 1) ≤ 10000) := by rw [Bool.eq_iff_iff]; simp; omega
  simp only [h, decide_true, Bool.true_and, cond_true]
  cases decB (wat ws 0) <;> cases decB (wat ws 1) <;> simp only [cond_true, cond_false, e1, e2, Bool.true_and, Bool.false_and, Bool.and_false]
 ·simp [h]
set_option maxHeartbeats 1600000 in
theorem readTimes_any (s : ByteArray) (w : World) (hs : s.size ≤ 1048576) :
  Calls Tryz.prog 266 #[.string s] w fun e w' => e = .returned (.tuple #[.int .i64 (tmF (cutW s)), .int .i64 (tmY (cutW s)), .bool (tmO (cutW s))]) ∧ Below w.heap.size w w' := by
 have HRD : Hid (∀ (x : ByteArray) (wx : World), x.size ≤ s.size → Calls Tryz.prog 208 #[.string x] wx fun e w' => e = .returned (.tuple #[.int .i64 (rdN x), .bool (decB x)]) ∧ Below wx.heap.size wx w') := fun x wx hx => readDecimal_any x wx (by unfold maxLen; omega)
 have HSZ : Hid (∀ i, i < (cutW s).length → (wat (cutW s) i).size ≤ s.size) := fun i hi => wat_size hi
 have HWD : Hid (∀ wx : World, Calls Tryz.prog 140 #[.string s] wx fun e w' => ∃ v, e = .returned v ∧ StrsAt w' v (cutW s) ∧ Below wx.heap.size wx w') := fun wx => wordsOf_any s wx hs
 generalize cutW s = ws at *
 go_enter Tryz.func266, Tryz.ntmps266
 go_wp2_with fail
 refine (HWD.out _).mono ?_
 rintro e w1 ⟨v, rfl, hst, hb1⟩
 have HST : Hid (StrsAt w1 v ws) := hst
 obtain ⟨g, off, cap, rfl, hlc, hcm, -⟩ := hst
 have HB1 : Hid (Below w.heap.size w w1) := hb1
 clear hb1
 by_cases h2 : ws.length = 2
 ·have h2' : (((ws.length : Nat) : Int) == 2) = true := by simp [h2]
  have h2i : (1 : Int) < ((ws.length : Nat) : Int) := by omega
  have h2j : 1 < ws.length := by omega
  have h2k : 0 < ws.length := by omega
  have c0 : w1.cell? ⟨g, off + 0, none⟩ = some (.string (wat ws 0)) := HST.out.cell 0 (by omega)
  have c1 : w1.cell? ⟨g, off + 1, none⟩ = some (.string (wat ws 1)) := HST.out.cell 1 (by omega)
  simp only [Nat.add_zero] at c0
  have HF : Hid (tmF ws = rdN (wat ws 0)) := by show tmF ws = _; unfold tmF; simp [h2]
  have HY : Hid (tmY ws = rdN (wat ws 1)) := by show tmY ws = _; unfold tmY; simp [h2]
  have HO : Hid (tmO ws = (decB (wat ws 0) && decB (wat ws 1))) := by show tmO ws = _; unfold tmO; simp [h2]
  have Z0 : Hid ((wat ws 0).size ≤ s.size) := HSZ.out 0 (by omega)
  have Z1 : Hid ((wat ws 1).size ≤ s.size) := HSZ.out 1 (by omega)
  clear HST HSZ h2 HWD
  generalize wat ws 0 = x0 at *
  generalize wat ws 1 = x1 at *
  go_wp2_with fail
  refine (HRD.out x0 _ Z0.out).mono ?_
  rintro e w2 ⟨rfl, hb2⟩
  have d1 := cell_keep hb2 (Nat.le_refl _) c1
  go_wp2_with fail
  refine (HRD.out x1 _ Z1.out).mono ?_
  rintro e w3 ⟨rfl, hb3⟩
  have HB : Hid (Below w.heap.size w w3) := below_step (below_step HB1.out hb2) hb3
  clear hb2 hb3 HRD c0 c1 d1
  generalize decB x0 = b0 at *
  generalize decB x1 = b1 at *
  cases b0
  ·go_wp2
   exact bodyPost_ret (v := .tuple #[.int .i64 (rdN x0), .int .i64 (rdN x1), .bool false]) (by simp [results, Tryz.results266, go_sem]) rfl ⟨by rw [HF.out, HY.out, HO.out]; rfl, HB.out⟩
  ·cases b1
   ·go_wp2
    exact bodyPost_ret (v := .tuple #[.int .i64 (rdN x0), .int .i64 (rdN x1), .bool false]) (by simp [results, Tryz.results266, go_sem]) rfl ⟨by rw [HF.out, HY.out, HO.out]; rfl, HB.out⟩
   ·go_wp2
    exact bodyPost_ret (v := .tuple #[.int .i64 (rdN x0), .int .i64 (rdN x1), .bool true]) (by simp [results, Tryz.results266, go_sem]) rfl ⟨by rw [HF.out, HY.out, HO.out]; rfl, HB.out⟩
 ·have h2' : (((ws.length : Nat) : Int) == 2) = false := by simp; omega
  have HF : Hid (tmF ws = 0) := by show tmF ws = _; unfold tmF; simp [h2]
  have HY : Hid (tmY ws = 0) := by show tmY ws = _; unfold tmY; simp [h2]
  have HO : Hid (tmO ws = false) := by show tmO ws = _; unfold tmO; simp [h2]
  go_wp2
  exact bodyPost_ret (v := .tuple #[.int .i64 (0), .int .i64 (0), .bool false]) (by simp [results, Tryz.results266, go_sem]) rfl ⟨by rw [HF.out, HY.out, HO.out], HB1.out⟩
set_option maxHeartbeats 1600000 in
theorem timeRule_any (vk vp : Value) (s : ByteArray) (w : World) (hs : s.size ≤ 1048576) :
  Calls Tryz.prog 331 #[.agg #[], .agg #[vk, vp], .string s] w fun e w' => e = .returned (.bool (timeB (cutW s))) ∧ Below w.heap.size w w' := by
 have HRT := fun wx => readTimes_any s wx hs
 have HE : Hid (timeB (cutW s) = (tmO (cutW s) && (decide (tmF (cutW s) ≤ tmY (cutW s)) && decide (tmY (cutW s) ≤ 10000)))) := timeB_tm _
 have HR : Hid (∀ wx : World, Calls Tryz.prog 266 #[.string s] wx fun e w' => e = .returned (.tuple #[.int .i64 (tmF (cutW s)), .int .i64 (tmY (cutW s)), .bool (tmO (cutW s))]) ∧ Below wx.heap.size wx w') := HRT
 clear HRT
 generalize timeB (cutW s) = r at *
 generalize tmO (cutW s) = o at *
 generalize tmF (cutW s) = n0 at *
 generalize tmY (cutW s) = n1 at *
 go_enter Tryz.func331, Tryz.ntmps331
 go_wp2_with fail
 refine (HR.out _).mono ?_
 rintro e w1 ⟨rfl, hb1⟩
 have HB : Hid (Below w.heap.size w w1) := below_step (((Below.refl _ _).alloc (Nat.le_refl _) _).alloc (by simp) _) hb1
 clear hb1
 cases o
 ·go_wp2
  go_ret
  exact ⟨ret_bool (by rw [HE.out]; rfl), HB.out⟩
 ·by_cases h3 : n0 ≤ n1
  ·by_cases h4 : n1 ≤ 10000
   ·go_wp2
    go_ret
    exact ⟨ret_bool (by rw [HE.out]; simp; omega), HB.out⟩
   ·go_wp2
    go_ret
    exact ⟨ret_bool (by rw [HE.out]; simp; omega), HB.out⟩
  ·go_wp2
   go_ret
   exact ⟨ret_bool (by rw [HE.out]; simp; omega), HB.out⟩
theorem routeB_no {ps : List Tri} {ws : List ByteArray} (h : inB ws.length 2 8 = false) : routeB ps ws = false := by unfold routeB; rw [h]; rfl
theorem routeB_yes {ps : List Tri} {ws : List ByteArray} (h : inB ws.length 2 8 = true) : routeB ps ws = allB ws.length (stepB ps ws) := by unfold routeB; rw [h]; rfl
set_option maxHeartbeats 1600000 in
theorem routeFits_any (vk vp v : Value) (ps : List Tri) (ws : List ByteArray) (w : World) (hp : TrisAt w vp ps) (hst0 : StrsAt w v ws) :
  Calls Tryz.prog 249 #[.agg #[vk, vp], v] w fun e w' => e = .returned (.bool (routeB ps ws)) ∧ Below w.heap.size w w' := by
 have HHP : Hid (∀ (x : ByteArray) (wx : World), Below w.heap.size w wx → Calls Tryz.prog 183 #[vp, .string x, .func (.func 132) #[] #[]] wx fun e w' => e = .returned (.tuple #[.int .i64 (plc ps x : Nat), .bool (hasB ps x)]) ∧ Below wx.heap.size wx w') := fun x wx hx => placePoint_any vp ps x wx (hp.keep hx)
 clear hp
 have HB1 : Hid (Below w.heap.size w (w.alloc (.cells #[vk, vp] 27))) := (Below.refl _ _).alloc (Nat.le_refl _) _
 have hst := hst0.keep HB1.out
 have HST : Hid (StrsAt (w.alloc (.cells #[vk, vp] 27)) v ws) := hst
 clear hst0
 obtain ⟨g, off, cap, rfl, hlc, hcm, -⟩ := hst
 have p0 : (w.alloc (.cells #[vk, vp] 27)).cell? ⟨w.heap.size, 0, none⟩ = some vk := by simp [go_sem]
 have p1 : (w.alloc (.cells #[vk, vp] 27)).cell? ⟨w.heap.size, 1, none⟩ = some vp := by simp [go_sem]
 unfold maxLen at hcm
 go_enter Tryz.func249, Tryz.ntmps249
 by_cases h1 : (ws.length : Int) < 2
 ·have HE : Hid (routeB ps ws = false) := routeB_no (by simp [inB]; omega)
  go_wp2
  go_ret
  exact ⟨ret_bool HE.out.symm, HB1.out⟩
 by_cases h2 : (8 : Int) < (ws.length : Int)
 ·have HE : Hid (routeB ps ws = false) := routeB_no (by simp [inB]; omega)
  go_wp2
  go_ret
  exact ⟨ret_bool HE.out.symm, HB1.out⟩
 have HE : Hid (routeB ps ws = allB ws.length (stepB ps ws)) := routeB_yes (by simp [inB]; omega)
 have Q0 : Hid ((w.alloc (.cells #[vk, vp] 27)).cell? ⟨w.heap.size, 0, none⟩ = some vk ∧ (w.alloc (.cells #[vk, vp] 27)).cell? ⟨w.heap.size, 1, none⟩ = some vp) := ⟨p0, p1⟩
 clear p0 p1
 go_wp2_with fail
 generalize (w.alloc (.cells #[vk, vp] 27)) = w1 at *
 go_loopw [5, 6, 19] (fun _ _ i wr => ∃ k : Nat, k ≤ ws.length ∧ i = .int .i64 k ∧ Below w1.heap.size w1 wr ∧ Hid (∀ j, j < k → stepB ps ws j = true)) (fun _ _ i _ => ws.length - (intOf i).toNat)
 case atStart => exact ⟨0, Nat.zero_le _, rfl, Below.refl _ _, fun j hj => absurd hj (Nat.not_lt_zero _)⟩
 case round =>
  obtain ⟨k, hk, rfl, hb, HA⟩ := hrel
  by_cases hlt : k < ws.length
  ·have c0 : wr.cell? ⟨g, off + k, none⟩ = some (.string (wat ws k)) := (HST.out.keep hb).cell k hlt
   have p0 := cell_keep hb (Nat.le_refl _) Q0.out.1
   have p1 := cell_keep hb (Nat.le_refl _) Q0.out.2
   have hk0 : (0 : Int) ≤ (k : Int) := by omega
   have hk1 : (k : Int) < (ws.length : Int) := by omega
   cases hh : hasB ps (wat ws k)
   ·have HH : Hid (hasB ps (wat ws k) = false) := hh
    clear hh
    go_wp2_with fail
    refine (HHP.out (wat ws k) _ (below_step HB1.out hb)).mono ?_
    rw [HH.out]
    rintro e w2 ⟨rfl, hb2⟩
    go_wp2
    go_ret
    exact ⟨ret_bool (by rw [HE.out]; exact (allB_false hlt (by unfold stepB; rw [HH.out]; rfl)).symm), below_step (below_step HB1.out hb) hb2⟩
   ·have HH : Hid (hasB ps (wat ws k) = true) := hh
    clear hh
    by_cases hz : 0 < k
    ·have c1 : wr.cell? ⟨g, off + (k - 1), none⟩ = some (.string (wat ws (k - 1))) := (HST.out.keep hb).cell (k - 1) (by omega)
     by_cases hx : wat ws (k - 1) = wat ws k
     ·have hq : ((wat ws (k - 1)).toList == (wat ws k).toList) = true := str_eq hx
      have HX : Hid (stepB ps ws k = false) := by show stepB ps ws k = false; unfold stepB; simp [hx, hz]
      clear hx
      go_wp2_with fail
      refine (HHP.out (wat ws k) _ (below_step HB1.out hb)).mono ?_
      rw [HH.out]
      rintro e w2 ⟨rfl, hb2⟩
      have c2 := cell_keep hb2 (Nat.le_refl _) c1
      go_wp2
      go_ret
      exact ⟨ret_bool (by rw [HE.out]; exact (allB_false hlt HX.out).symm), below_step (below_step HB1.out hb) hb2⟩
     ·have hq : ((wat ws (k - 1)).toList == (wat ws k).toList) = false := str_ne hx
      have HX : Hid (stepB ps ws k = true) := by show stepB ps ws k = true; unfold stepB; rw [HH.out]; simp [hx]
      clear hx
      go_wp2_with fail
      refine (HHP.out (wat ws k) _ (below_step HB1.out hb)).mono ?_
      rw [HH.out]
      rintro e w2 ⟨rfl, hb2⟩
      have c2 := cell_keep hb2 (Nat.le_refl _) c1
      go_wp2
      exact ⟨⟨k + 1, by omega, by go_num, below_step hb hb2, fun j hj => if e : j = k then by rw [e]; exact HX.out else HA.out j (by omega)⟩, by simp [intOf]; omega⟩
    ·have HX : Hid (stepB ps ws k = true) := by show stepB ps ws k = true; unfold stepB; rw [HH.out]; simp [hz]
     go_wp2_with fail
     refine (HHP.out (wat ws k) _ (below_step HB1.out hb)).mono ?_
     rw [HH.out]
     rintro e w2 ⟨rfl, hb2⟩
     go_wp2
     exact ⟨⟨k + 1, by omega, by go_num, below_step hb hb2, fun j hj => if e : j = k then by rw [e]; exact HX.out else HA.out j (by omega)⟩, by simp [intOf]; omega⟩
  ·go_wp2
   go_ret
   exact ⟨ret_bool (by rw [HE.out]; exact (allB_true fun j hj => HA.out j (by omega)).symm), below_step HB1.out hb⟩
set_option maxHeartbeats 1600000 in
theorem routeRule_any (vk vp : Value) (ps : List Tri) (s : ByteArray) (w : World) (hs : s.size ≤ 1048576) (hp : TrisAt w vp ps) :
  Calls Tryz.prog 333 #[.agg #[], .agg #[vk, vp], .string s] w fun e w' => e = .returned (.bool (routeB ps (cutW s))) ∧ Below w.heap.size w w' := by
 have HWD : Hid (∀ wx : World, Calls Tryz.prog 140 #[.string s] wx fun e w' => ∃ v, e = .returned v ∧ StrsAt w' v (cutW s) ∧ Below wx.heap.size wx w') := fun wx => wordsOf_any s wx hs
 generalize cutW s = ws at *
 have HRF : Hid (∀ (v : Value) (wx : World), Below w.heap.size w wx → StrsAt wx v ws → Calls Tryz.prog 249 #[.agg #[vk, vp], v] wx fun e w' => e = .returned (.bool (routeB ps ws)) ∧ Below wx.heap.size wx w') := fun v wx hx hv => routeFits_any vk vp v ps ws wx (hp.keep hx) hv
 clear hp
 have HAL : Hid (Below w.heap.size w ((w.alloc (.cells #[] 263)).alloc (.cells #[vk, vp] 27))) := ((Below.refl _ _).alloc (Nat.le_refl _) _).alloc (by simp) _
 have p0 : ((w.alloc (.cells #[] 263)).alloc (.cells #[vk, vp] 27)).cell? ⟨w.heap.size + 1, 0, none⟩ = some vk := by simp [go_sem]
 have p1 : ((w.alloc (.cells #[] 263)).alloc (.cells #[vk, vp] 27)).cell? ⟨w.heap.size + 1, 1, none⟩ = some vp := by simp [go_sem]
 go_enter Tryz.func333, Tryz.ntmps333
 go_wp2_with fail
 generalize ((w.alloc (.cells #[] 263)).alloc (.cells #[vk, vp] 27)) = w1 at *
 refine wp_region_noPanic ?_
 refine wp_region_held_drew (S := fun w' => w'.cell? ⟨w.heap.size + 1, 0, none⟩ = some vk ∧ w'.cell? ⟨w.heap.size + 1, 1, none⟩ = some vp) (by kernel_rfl) ?_ (fun hHeld => ?_)
 ·exact ⟨cell_keep (Below.refl _ _).drew (Nat.le_refl _) p0, cell_keep (Below.refl _ _).drew (Nat.le_refl _) p1⟩
 have HBW : Hid (Below w.heap.size w w1.drew) := below_step HAL.out (Below.refl _ _).drew
 have Q0 : Hid (∀ wx : World, Below w1.heap.size w1 wx → wx.cell? ⟨w.heap.size + 1, 0, none⟩ = some vk ∧ wx.cell? ⟨w.heap.size + 1, 1, none⟩ = some vp) := fun wx hx => ⟨cell_keep hx (Nat.le_refl _) p0, cell_keep hx (Nat.le_refl _) p1⟩
 have HB1 : Hid (Below w1.heap.size w1 w1.drew) := (Below.refl _ _).drew
 clear p0 p1
 refine tkH 0 ?_ rfl ?_ (tkH 1 ?_ rfl ?_ ?_)
 iterate 2 (rotate_left; focus (intro w hSw; (try dsimp only at hSw); simp only [Act.put, tkS]; go_simp; try with_reducible rfl))
 simp only [Act.put, tkS]
 clear hHeld
 refine rdH 2 rfl (fun K hK => ?_)
 go_simp
 refine (HWD.out _).mono ?_
 rintro e w2 ⟨v, rfl, hst, hb2⟩
 have HB2 : Hid (Below w1.heap.size w1 w2) := below_step HB1.out hb2
 have HC2 : Hid (Below w.heap.size w w2) := below_step HBW.out hb2
 have HST : Hid (StrsAt w2 v ws) := hst
 obtain ⟨g, off, cap, rfl, hlc, hcm, -⟩ := hst
 refine hK.out _ _ (Q0.out _ HB2.out) (fun _ => ?_)
 clear hK K hb2 HBW HB1
 refine rdH 3 rfl (fun K hK => ?_)
 go_simp
 refine (HRF.out _ _ HC2.out HST.out).mono ?_
 rintro e w3 ⟨rfl, hb3⟩
 have HB3 : Hid (Below w1.heap.size w1 w3) := below_step HB2.out hb3
 have HC3 : Hid (Below w.heap.size w w3) := below_step HC2.out hb3
 have hHeld := Q0.out _ HB3.out
 refine hK.out _ _ hHeld (fun _ => ?_)
 clear hK K
 refine tkH 4 ?_ rfl ?_ ?_; rotate_left
 ·intro w hSw; (try dsimp only at hSw); go_simp; try with_reducible rfl
 simp only [Act.put, tkS]
 clear hHeld
 refine wpAnyH_done (by kernel_rfl) ?_ _
 refine NoPanic.normal ?_
 go_wp2
 go_ret
 exact ⟨rfl, HC3.out⟩
end Go.Proofs.YtcmgddnckohdaaaGreatDoor
namespace Go.Proofs.YtcmgddnckohdaaaGreatDoor
open Go.RowKit
attribute [local go_sem] Later.cell Later.frozen
def ruleV (what : Int) : Value :=
 if what = 1 then .iface 260 (.agg #[]) else if what = 2 then .iface 261 (.agg #[]) else if what = 3 then .iface 262 (.agg #[]) else if what = 4 then .iface 263 (.agg #[]) else if what = 5 then .iface 264 (.agg #[]) else .nilIface
set_option maxHeartbeats 800000 in
theorem ruleOf_any (what : Int) (w : World) :
  Calls Tryz.prog 165 #[.int .i64 what] w fun e w' => e = .returned (ruleV what) ∧ w' = w := by
 have HR : Hid (ruleV what = ruleV what) := rfl
 by_cases h1 : what = 1
 ·subst h1
  go_enter Tryz.func165, Tryz.ntmps165
  go_wp2
  go_ret
  exact ⟨rfl, rfl⟩
 by_cases h2 : what = 2
 ·subst h2
  go_enter Tryz.func165, Tryz.ntmps165
  go_wp2
  go_ret
  exact ⟨rfl, rfl⟩
 by_cases h3 : what = 3
 ·subst h3
  go_enter Tryz.func165, Tryz.ntmps165
  go_wp2
  go_ret
  exact ⟨rfl, rfl⟩
 by_cases h4 : what = 4
 ·subst h4
  go_enter Tryz.func165, Tryz.ntmps165
  go_wp2
  go_ret
  exact ⟨rfl, rfl⟩
 by_cases h5 : what = 5
 ·subst h5
  go_enter Tryz.func165, Tryz.ntmps165
  go_wp2
  go_ret
  exact ⟨rfl, rfl⟩
 have e : ruleV what = .nilIface := by simp [ruleV, h1, h2, h3, h4, h5]
 have g1 : (what == 1) = false := by simp [h1]
 have g2 : (what == 2) = false := by simp [h2]
 have g3 : (what == 3) = false := by simp [h3]
 have g4 : (what == 4) = false := by simp [h4]
 have g5 : (what == 5) = false := by simp [h5]
 rw [e]
 clear h1 h2 h3 h4 h5 e HR
 go_enter Tryz.func165, Tryz.ntmps165
 go_wp2
 go_ret
 exact ⟨rfl, rfl⟩
theorem meth1 : ∀ w : World, (method 502 260 (.agg #[]) "loop.example/lapplan/impl.fits").run Tryz.prog w = .ok (330, .agg #[]) w := fun _ => by kernel_rfl
theorem meth2 : ∀ w : World, (method 502 261 (.agg #[]) "loop.example/lapplan/impl.fits").run Tryz.prog w = .ok (331, .agg #[]) w := fun _ => by kernel_rfl
theorem meth3 : ∀ w : World, (method 502 262 (.agg #[]) "loop.example/lapplan/impl.fits").run Tryz.prog w = .ok (332, .agg #[]) w := fun _ => by kernel_rfl
theorem meth4 : ∀ w : World, (method 502 263 (.agg #[]) "loop.example/lapplan/impl.fits").run Tryz.prog w = .ok (333, .agg #[]) w := fun _ => by kernel_rfl
theorem meth5 : ∀ w : World, (method 502 264 (.agg #[]) "loop.example/lapplan/impl.fits").run Tryz.prog w = .ok (334, .agg #[]) w := fun _ => by kernel_rfl
set_option maxHeartbeats 1600000 in
theorem valueFits_any (vk vp : Value) (ks ps : List Tri) (what : Int) (s : ByteArray) (w : World) (hk : TrisAt w vk ks) (hp : TrisAt w vp ps) (hs : s.size ≤ 1048576) :
  Calls Tryz.prog 135 #[.agg #[vk, vp], .int .i64 what, .string s] w fun e w' => e = .returned (.bool (valB2 ks ps what s)) ∧ Below w.heap.size w w' := by
 have HK := hk; have HP := hp
 obtain ⟨ak, ck, rfl, -, -, -⟩ := hk
 obtain ⟨ap, cp, rfl, -, -, -⟩ := hp
 have HK1 : Hid (TrisAt w (.slice ak ks.length ck) ks) := HK
 have HP1 : Hid (TrisAt w (.slice ap ps.length cp) ps) := HP
 clear HK HP
 by_cases h1 : what = 1
 ·subst h1
  have HE : Hid (valB2 ks ps 1 s = hasB ks s) := rfl
  have hm := meth1
  go_enter Tryz.func135, Tryz.ntmps135
  go_wp2_with fail
  refine (ruleOf_any _ _).mono ?_
  rintro e w1 ⟨rfl, rfl⟩
  have e1 : ruleV 1 = .iface 260 (.agg #[]) := rfl
  rw [e1]; clear e1
  go_wp2_with fail
  refine (kindRule_any _ _ ks s _ (HK1.out.alloc _)).mono ?_
  rintro e w2 ⟨rfl, hb2⟩
  go_wp2
  go_ret
  exact ⟨ret_bool HE.out.symm, below_step ((Below.refl _ _).alloc (Nat.le_refl _) _) hb2⟩
 by_cases h2 : what = 2
 ·subst h2
  have HE : Hid (valB2 ks ps 2 s = timeB (cutW s)) := rfl
  have hm := meth2
  go_enter Tryz.func135, Tryz.ntmps135
  go_wp2_with fail
  refine (ruleOf_any _ _).mono ?_
  rintro e w1 ⟨rfl, rfl⟩
  have e1 : ruleV 2 = .iface 261 (.agg #[]) := rfl
  rw [e1]; clear e1
  go_wp2_with fail
  refine (timeRule_any _ _ s _ hs).mono ?_
  rintro e w2 ⟨rfl, hb2⟩
  go_wp2
  go_ret
  exact ⟨ret_bool HE.out.symm, below_step ((Below.refl _ _).alloc (Nat.le_refl _) _) hb2⟩
 by_cases h3 : what = 3
 ·subst h3
  have HE : Hid (valB2 ks ps 3 s = levelB s) := rfl
  have hm := meth3
  go_enter Tryz.func135, Tryz.ntmps135
  go_wp2_with fail
  refine (ruleOf_any _ _).mono ?_
  rintro e w1 ⟨rfl, rfl⟩
  have e1 : ruleV 3 = .iface 262 (.agg #[]) := rfl
  rw [e1]; clear e1
  go_wp2_with fail
  refine (levelRule_any _ _ s _ hs).mono ?_
  rintro e w2 ⟨rfl, hb2⟩
  go_wp2
  go_ret
  exact ⟨ret_bool HE.out.symm, below_step ((Below.refl _ _).alloc (Nat.le_refl _) _) hb2⟩
 by_cases h4 : what = 4
 ·subst h4
  have HE : Hid (valB2 ks ps 4 s = routeB ps (cutW s)) := rfl
  have hm := meth4
  go_enter Tryz.func135, Tryz.ntmps135
  go_wp2_with fail
  refine (ruleOf_any _ _).mono ?_
  rintro e w1 ⟨rfl, rfl⟩
  have e1 : ruleV 4 = .iface 263 (.agg #[]) := rfl
  rw [e1]; clear e1
  go_wp2_with fail
  refine (routeRule_any _ _ ps s _ hs (HP1.out.alloc _)).mono ?_
  rintro e w2 ⟨rfl, hb2⟩
  go_wp2
  go_ret
  exact ⟨ret_bool HE.out.symm, below_step ((Below.refl _ _).alloc (Nat.le_refl _) _) hb2⟩
 by_cases h5 : what = 5
 ·subst h5
  have HE : Hid (valB2 ks ps 5 s = stateB s) := rfl
  have hm := meth5
  go_enter Tryz.func135, Tryz.ntmps135
  go_wp2_with fail
  refine (ruleOf_any _ _).mono ?_
  rintro e w1 ⟨rfl, rfl⟩
  have e1 : ruleV 5 = .iface 264 (.agg #[]) := rfl
  rw [e1]; clear e1
  go_wp2_with fail
  refine (stateRule_any _ _ s _).mono ?_
  rintro e w2 ⟨rfl, hb2⟩
  go_wp2
  go_ret
  exact ⟨ret_bool HE.out.symm, below_step ((Below.refl _ _).alloc (Nat.le_refl _) _) hb2⟩
 have HE : Hid (valB2 ks ps what s = false) := by show valB2 ks ps what s = false; simp [valB2, h1, h2, h3, h4, h5]
 have HR : Hid (ruleV what = .nilIface) := by show ruleV what = _; simp [ruleV, h1, h2, h3, h4, h5]
 clear h1 h2 h3 h4 h5
 go_enter Tryz.func135, Tryz.ntmps135
 go_wp2_with fail
 refine (ruleOf_any _ _).mono ?_
 rw [HR.out]
 rintro e w1 ⟨rfl, rfl⟩
 go_wp2
 go_ret
 exact ⟨ret_bool HE.out.symm, (Below.refl _ _).alloc (Nat.le_refl _) _⟩
end Go.Proofs.YtcmgddnckohdaaaGreatDoor
namespace Go.Proofs.YtcmgddnckohdaaaGreatDoor
open Go.RowKit
attribute [local go_sem] Later.cell Later.frozen
set_option maxHeartbeats 1600000 in
theorem changeFits_any (vk vp : Value) (ks ps : List Tri) (c : Chg) (w : World) (hk : TrisAt w vk ks) (hp : TrisAt w vp ps) (hf : c.f.size ≤ 1048576) (hs : c.v.size ≤ 1048576) :
  Calls Tryz.prog 81 #[.agg #[vk, vp], .agg #[.string c.f, .int .i64 c.what, .int .i64 c.num, .string c.v]] w fun e w' => e = .returned (.bool (fitB ks ps c)) ∧ Below w.heap.size w w' := by
 have HK := hk; have HP := hp
 obtain ⟨ak, ck, rfl, -, -, -⟩ := hk
 obtain ⟨ap, cp, rfl, -, -, -⟩ := hp
 have HK1 : Hid (TrisAt w (.slice ak ks.length ck) ks) := HK
 have HP1 : Hid (TrisAt w (.slice ap ps.length cp) ps) := HP
 clear HK HP
 obtain ⟨f, what, num, v⟩ := c
 dsimp only at *
 have HE : Hid (fitB ks ps ⟨f, what, num, v⟩ = (nameB f && (inB num 1 1000000 && valB2 ks ps what v))) := rfl
 generalize fitB ks ps ⟨f, what, num, v⟩ = res at HE ⊢
 go_enter Tryz.func81, Tryz.ntmps81
 go_wp2_with fail
 refine (nameOk_any f _ (by unfold maxLen; omega)).mono ?_
 rintro e w1 ⟨rfl, hb1⟩
 have k0 : w1.cell? ⟨w.heap.size, 0, none⟩ = some (.slice ak ks.length ck) := cell_keep hb1 (Nat.le_refl _) (by simp [go_sem])
 have k1 : w1.cell? ⟨w.heap.size, 1, none⟩ = some (.slice ap ps.length cp) := cell_keep hb1 (Nat.le_refl _) (by simp [go_sem])
 have c0 : w1.cell? ⟨w.heap.size + 1, 0, none⟩ = some (.string f) := cell_keep hb1 (Nat.le_refl _) (by simp [go_sem])
 have c1 : w1.cell? ⟨w.heap.size + 1, 1, none⟩ = some (.int .i64 what) := cell_keep hb1 (Nat.le_refl _) (by simp [go_sem])
 have c2 : w1.cell? ⟨w.heap.size + 1, 2, none⟩ = some (.int .i64 num) := cell_keep hb1 (Nat.le_refl _) (by simp [go_sem])
 have c3 : w1.cell? ⟨w.heap.size + 1, 3, none⟩ = some (.string v) := cell_keep hb1 (Nat.le_refl _) (by simp [go_sem])
 have HB1 : Hid (Below w.heap.size w w1) := below_step (((Below.refl _ _).alloc (Nat.le_refl _) _).alloc (by simp) _) hb1
 clear hb1
 generalize nameB f = b1 at *
 cases b1
 ·go_wp2
  go_ret
  exact ⟨ret_bool (by rw [HE.out]; rfl), HB1.out⟩
 ·go_wp2_with fail
  refine (numberOk_any _ _).mono ?_
  rintro e w2 ⟨rfl, hw2⟩
  subst hw2
  generalize inB num 1 1000000 = b2 at *
  cases b2
  ·go_wp2
   go_ret
   exact ⟨ret_bool (by rw [HE.out]; rfl), HB1.out⟩
  ·go_wp2_with fail
   refine (valueFits_any _ _ ks ps what v _ (HK1.out.keep HB1.out) (HP1.out.keep HB1.out) hs).mono ?_
   rintro e w3 ⟨rfl, hb3⟩
   go_wp2
   go_ret
   exact ⟨ret_bool (by rw [HE.out]; rfl), below_step HB1.out hb3⟩
end Go.Proofs.YtcmgddnckohdaaaGreatDoor
namespace Go.Proofs.YtcmgddnckohdaaaGreatDoor
open Go.RowKit
attribute [local go_sem] Later.cell Later.frozen
def ascE (l : List Ent) (i : Nat) : Bool := !(decide (0 < i) && geB (eat l (i - 1)).name (eat l i).name)
theorem ascE_zero (l : List Ent) : ascE l 0 = true := by simp [ascE]
theorem ascE_succ (l : List Ent) (m : Nat) : ascE l (m + 1) = !geB (eat l m).name (eat l (m + 1)).name := by simp [ascE]
def namesE (l : List Ent) : Bool := decide (l.length ≤ 12) && allB l.length fun i => nameB (eat l i).name && ascE l i
def chgOf (n : ByteArray) (f : Fld) : Chg := ⟨n, f.what, f.num, f.v⟩
def ascF (l : List Fld) (i : Nat) : Bool := !(decide (0 < i) && decide ((fat l i).what ≤ (fat l (i - 1)).what))
def fieldsB (ks ps : List Tri) (n : ByteArray) (l : List Fld) : Bool := (allB l.length fun i => ascF l i && fitB ks ps (chgOf n (fat l i))) && decide (0 < l.length)
def bookB (ks ps : List Tri) (es : List Ent) : Bool := baseB ks ps && (namesE es && allB es.length fun i => fieldsB ks ps (eat es i).name (eat es i).fs)
theorem entryName_any (n : ByteArray) (fv : Value) (w : World) :
  Calls Tryz.prog 42 #[.agg #[.string n, fv]] w fun e w' => e = .returned (.string n) ∧ Below w.heap.size w w' := by
 go_enter Tryz.func42, Tryz.ntmps42
 go_wp2
 go_ret
 exact ⟨rfl, (Below.refl _ _).alloc (Nat.le_refl _) _⟩
set_option maxHeartbeats 3200000 in
theorem namesEntry_any (v : Value) (l : List Ent) (w : World) (hv : EntsAt w v l) (hs : ENames l) :
  Calls Tryz.prog 41 #[v, .int .i64 12, .func (.func 42) #[] #[]] w fun e w' => e = .returned (.bool (namesE l)) ∧ Below w.heap.size w w' := by
 obtain ⟨a, cap, rfl, hlc, hcm, hc⟩ := hv
 unfold maxLen at hcm
 have HC : Hid (∀ i f, l[i]? = some f → ∃ b off, a = some ⟨b, off, none⟩ ∧ EntAt w b (off + i * 2) f) := hc
 have HS : Hid (ENames l) := hs
 clear hc hs
 by_cases hn : (12 : Int) < (l.length : Int)
 ·have e : namesE l = false := by simp [namesE]; omega
  rw [e]; clear e
  go_enter Tryz.func41, Tryz.ntmps41
  go_wp2
  go_ret
  exact ⟨rfl, Below.refl _ _⟩
 ·have e : namesE l = allB l.length fun i => nameB (eat l i).name && ascE l i := by
   have : l.length ≤ 12 := by omega
   simp [namesE, this]
  rw [e]; clear e
  go_enter Tryz.func41, Tryz.ntmps41
  go_wp2
  go_loopw [7, 8, 15] (fun _ _ i wr => ∃ k : Nat, k ≤ l.length ∧ i = .int .i64 k ∧ Below w.heap.size w wr ∧ Hid (∀ j, j < k → (nameB (eat l j).name && ascE l j) = true)) (fun _ _ i _ => l.length - (intOf i).toNat)
  case atStart => exact ⟨0, Nat.zero_le _, rfl, Below.refl _ _, fun j hj => absurd hj (Nat.not_lt_zero _)⟩
  case round =>
   obtain ⟨k, hk, rfl, hb, HA⟩ := hrel
   by_cases hlt : k < l.length
   ·obtain ⟨b, off, rfl, hc⟩ := HC.out k _ (eat_get hlt)
    obtain ⟨fv, d0, d1, hfl⟩ := hc.keep hb
    obtain ⟨fa, fc, rfl, -, -, -⟩ := hfl
    have hsk : (eat l k).name.size ≤ maxLen := (HS.out _ (List.mem_of_getElem? (eat_get hlt))).1
    have BAD : Hid (nameB (eat l k).name = false → allB l.length (fun i => nameB (eat l i).name && ascE l i) = false) := fun h => allB_false hlt (by simp [h])
    have BAD' : Hid (ascE l k = false → allB l.length (fun i => nameB (eat l i).name && ascE l i) = false) := fun h => allB_false hlt (by simp [h])
    have hk0 : (0 : Int) ≤ (k : Int) := by omega
    have hk1 : (k : Int) < (l.length : Int) := by omega
    have HO0 : Hid (OwnAt wr (wr.alloc (.cells #[.string (eat l k).name, .slice fa (eat l k).fs.length fc] 65)) [[.string (eat l k).name, .slice fa (eat l k).fs.length fc]]) := (OwnAt.start wr).push rfl _ _
    generalize hnl : (eat l k).fs.length = nl at *
    clear hnl
    go_wp2_with fail
    refine (entryName_any (eat l k).name _ _).mono ?_
    rintro e w1 ⟨rfl, hb1⟩
    go_wp2_with fail
    refine (nameOk_any (eat l k).name _ hsk).mono ?_
    rintro e w2 ⟨rfl, hb2⟩
    have HO2 : Hid (OwnAt wr w2 _) := (HO0.out.call hb1).call hb2
    have HBW : Hid (Below w.heap.size w w2) := below_step hb HO2.out.below
    have n0 : w2.cell? ⟨wr.heap.size, 0, none⟩ = some (.string (eat l k).name) := (HO2.out.has 0 _ rfl 0 _ rfl).1
    have n1 : w2.cell? ⟨wr.heap.size, 1, none⟩ = some (.slice fa nl fc) := (HO2.out.has 0 _ rfl 1 _ rfl).1
    have nz : wr.heap.size < w2.heap.size := lt_of_cell n0
    clear d0 d1 hb1 hb2 HO0 HO2
    cases hnm : nameB (eat l k).name
    ·have HN : Hid (nameB (eat l k).name = false) := hnm
     clear hnm
     go_wp2
     go_ret
     exact ⟨ret_bool (BAD.out HN.out).symm, HBW.out⟩
    ·have HN : Hid (nameB (eat l k).name = true) := hnm
     clear hnm
     have hne := Later.some w2
     have GN : Hid (∀ (n : ByteArray) (u : Value) (y : Later w2), Calls Tryz.prog 42 #[.agg #[.string n, u]] y.val fun e w'' => e = .returned (.string n) ∧ ∃ z : Later w2, w'' = z.val) := fun n u y => Calls.later (entryName_any n u y.val)
     by_cases hkz : k = 0
     ·subst hkz
      go_wp2
      refine wp_region_later (by kernel_rfl) (by kernel_rfl) ?_
      repeat (go_big_quiet_step (first | (go_at_call 42; exact GN.out _ _ _)))
      refine wpQuiet_nil ?_
      rintro _ ⟨x, rfl⟩
      go_wp2
      exact ⟨⟨1, by omega, by go_num, below_step HBW.out x.below, fun j hj => by
       obtain rfl : j = 0 := by omega
       rw [HN.out, ascE_zero]; rfl⟩, by simp [intOf]; omega⟩
     ·obtain ⟨m, rfl⟩ : ∃ m, k = m + 1 := ⟨k - 1, by omega⟩
      obtain ⟨b', off', hbo, hcm'⟩ := HC.out m _ (eat_get (by omega))
      cases hbo
      obtain ⟨fv', m0, m1, hfl'⟩ := hcm'.keep HBW.out
      obtain ⟨fa', fc', rfl, -, -, -⟩ := hfl'
      have mz : b < w2.heap.size := lt_of_cell m0
      have HE : Hid (ascE l (m + 1) = !geB (eat l m).name (eat l (m + 1)).name) := ascE_succ l m
      have hi0 : (0 : Int) ≤ (m : Int) := by omega
      have hi1 : (m : Int) < (l.length : Int) := by omega
      have hi2 : (0 : Int) < (m : Int) + 1 := by omega
      have hw1 : IntKind.i64.wrap (m : Int) = (m : Int) := by rw [IntKind.wrap_i64]; omega
      have hw2 : IntKind.i64.wrap ((m : Int) + 1 - 1) = (m : Int) := by rw [IntKind.wrap_i64]; omega
      clear hc hcm'
      go_wp2
      refine wp_region_later (by kernel_rfl) (by kernel_rfl) ?_
      repeat (go_big_quiet_step (first | (go_at_call 42; exact GN.out _ _ _)))
      refine wpQuiet_nil ?_
      rintro _ ⟨x, rfl⟩
      go_wp2
      ·rename_i h
       go_ret
       exact ⟨ret_bool (BAD'.out (by rw [HE.out]; unfold geB; rw [h]; rfl)).symm, below_step HBW.out x.below⟩
      ·rename_i h
       exact ⟨⟨m + 1 + 1, by omega, by go_num, below_step HBW.out x.below, fun j hj => if e : j = m + 1 then by rw [e, HN.out, HE.out]; unfold geB; rw [h]; rfl else HA.out j (by omega)⟩, by simp [intOf]; omega⟩
   ·go_wp2
    go_ret
    exact ⟨ret_bool (allB_true fun j hj => HA.out j (by omega)).symm, hb⟩
end Go.Proofs.YtcmgddnckohdaaaGreatDoor
