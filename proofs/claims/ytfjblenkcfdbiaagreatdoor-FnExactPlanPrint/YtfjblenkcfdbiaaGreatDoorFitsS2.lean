
/-
  The specification: routes; what fits; a change that is ok.
-/
import Derived.Test.YtfjblenkcfdbiaaGreatDoorFitsS
namespace Go.Proofs.YtfjblenkcfdbiaaGreatDoor
open Go.RowKit
attribute [local go_sem] Later.cell Later.frozen

theorem StrsAt.cellS {w : World} {g off n cap : Nat} {ws : List ByteArray} (h : StrsAt w (.slice (some ⟨g, off, none⟩) n cap) ws) (i : Nat) (hi : i < ws.length) : w.cell? ⟨g, off + i, none⟩ = some (.string (wat ws i)) := by
  obtain ⟨g', off', cap', e, _, _, hc⟩ := h
  cases e
  exact hc i _ (wat_get hi)
theorem routeB_noS {ps : List Tri} {ws : List ByteArray} (h : inB ws.length 2 8 = false) : routeB ps ws = false := by unfold routeB; rw [h]; rfl
theorem routeB_yesS {ps : List Tri} {ws : List ByteArray} (h : inB ws.length 2 8 = true) : routeB ps ws = allB ws.length (stepB ps ws) := by unfold routeB; rw [h]; rfl

set_option maxHeartbeats 3200000 in
theorem l2RouteOk_any (vk vp v : Value) (ps : List Tri) (ws : List ByteArray) (w : World) (hp : TrisAt w vp ps) (hv : StrsAt w v ws) (hmem : ∀ x, memB ps x = hasB ps x) :
    Calls Tryz.prog 122 #[.agg #[vk, vp], v] w fun e w' => e = .returned (.bool (routeB ps ws)) ∧ Below w.heap.size w w' := by
  have HST : Hid (StrsAt w v ws) := hv
  have HP : Hid (TrisAt w vp ps) := hp
  have HMEM : Hid (∀ x, memB ps x = hasB ps x) := hmem
  obtain ⟨g, off, cap, rfl, hlc, hcm, -⟩ := hv
  clear hp hmem
  unfold maxLen at hcm
  cases hin : inB ws.length 2 8
  · have HI : Hid (inB ws.length 2 8 = false) := hin
    have e : routeB ps ws = false := routeB_noS hin
    rw [e]; clear e hin
    go_enter Tryz.func122, Tryz.ntmps122
    go_wp2_with fail
    refine (l1In_any _ _ _ _).mono ?_
    rw [HI.out]
    rintro e w1 ⟨rfl, rfl⟩
    go_wp2
    go_ret
    exact ⟨rfl, (Below.refl _ _).alloc (Nat.le_refl _) _⟩
  have HI : Hid (inB ws.length 2 8 = true) := hin
  have e : routeB ps ws = allB ws.length (stepB ps ws) := routeB_yesS hin
  have h8 : ws.length ≤ 8 := by simp [inB] at hin; omega
  rw [e]; clear e hin
  go_enter Tryz.func122, Tryz.ntmps122
  go_wp2_with fail
  refine (l1In_any _ _ _ _).mono ?_
  rw [HI.out]
  rintro e w1 ⟨rfl, rfl⟩
  go_wp2
  go_loopw [5] (fun i wr => ∃ k : Nat, k ≤ ws.length ∧ i = .int .i64 k ∧ Boxed w wr vk vp ∧ Hid (∀ j, j < k → stepB ps ws j = true)) (fun i _ => ws.length - (intOf i).toNat)
  case atStart => exact ⟨0, Nat.zero_le _, rfl, Boxed.start _ _ _ _, fun j hj => absurd hj (Nat.not_lt_zero _)⟩
  case round =>
    obtain ⟨k, hk, rfl, hx, HA⟩ := hrel
    have x0 := hx.c0
    have x1 := hx.c1
    have xz := hx.big
    have HX : Hid (Boxed w wr vk vp) := hx
    clear hx
    by_cases hlt : k < ws.length
    · have c0 : wr.cell? ⟨g, off + k, none⟩ = some (.string (wat ws k)) := (HST.out.keep HX.out.below).cellS k hlt
      have hgl : g < wr.heap.size := lt_of_cell c0
      have hk0 : (0 : Int) ≤ (k : Int) := by omega
      have hk1 : (k : Int) < (ws.length : Int) := by omega
      have hne := Later.some wr
      have GP : Hid (∀ (x : ByteArray) (y : Later wr), Calls Tryz.prog 132 #[.agg #[vk, vp], .string x] y.val fun e w'' => e = .returned (.int .i64 (atI ps x)) ∧ ∃ z : Later wr, w'' = z.val) :=
        fun x y => Calls.later (l1Point_any vk vp ps x y.val ((HP.out.keep HX.out.below).keep y.below))
      cases hh : hasB ps (wat ws k)
      · have hq : decide (atI ps (wat ws k) < 0) = true := by rw [atI_no, HMEM.out, hh]; rfl
        have HH : Hid (stepB ps ws k = false) := by show stepB ps ws k = false; unfold stepB; rw [hh]; rfl
        clear hh
        go_wp2
        refine wp_region_later (by kernel_rfl) (by kernel_rfl) ?_
        repeat (go_big_quiet_step (first | (go_at_call 132; exact GP.out _ _)))
        refine wpQuiet_nil ?_
        rintro _ ⟨x, rfl⟩
        go_wp2
        go_ret
        exact ⟨ret_bool (allB_false hlt HH.out).symm, below_step HX.out.below x.below⟩
      · have hq : decide (atI ps (wat ws k) < 0) = false := by rw [atI_no, HMEM.out, hh]; rfl
        have HH : Hid (hasB ps (wat ws k) = true) := hh
        clear hh
        by_cases hz : 0 < k
        · have hz' : decide (0 < k) = true := by simp [hz]
          have c1 : wr.cell? ⟨g, off + (k - 1), none⟩ = some (.string (wat ws (k - 1))) := (HST.out.keep HX.out.below).cellS (k - 1) (by omega)
          have hi0 : (0 : Int) ≤ (k : Int) - 1 := by omega
          have hi1 : (k : Int) - 1 < (ws.length : Int) := by omega
          by_cases hx : wat ws (k - 1) = wat ws k
          · have he : ((wat ws (k - 1)).toList == (wat ws k).toList) = true := str_eq hx
            have HF : Hid (stepB ps ws k = false) := by show stepB ps ws k = false; unfold stepB; simp [hx, hz]
            clear hx
            go_wp2
            refine wp_region_later (by kernel_rfl) (by kernel_rfl) ?_
            repeat (go_big_quiet_step (first | (go_at_call 132; exact GP.out _ _)))
            refine wpQuiet_nil ?_
            rintro _ ⟨x, rfl⟩
            go_wp2
            go_ret
            exact ⟨ret_bool (allB_false hlt HF.out).symm, below_step HX.out.below x.below⟩
          · have he : ((wat ws (k - 1)).toList == (wat ws k).toList) = false := str_ne hx
            have HF : Hid (stepB ps ws k = true) := by show stepB ps ws k = true; unfold stepB; rw [HH.out]; simp [hx]
            clear hx
            go_wp2
            refine wp_region_later (by kernel_rfl) (by kernel_rfl) ?_
            repeat (go_big_quiet_step (first | (go_at_call 132; exact GP.out _ _)))
            refine wpQuiet_nil ?_
            rintro _ ⟨x, rfl⟩
            go_wp2
            exact ⟨⟨k + 1, by omega, by go_num, HX.out.call x.below, fun j hj => if e : j = k then by rw [e]; exact HF.out else HA.out j (by omega)⟩, by simp [intOf]; omega⟩
        · have hz' : decide (0 < k) = false := by simp; omega
          have HF : Hid (stepB ps ws k = true) := by show stepB ps ws k = true; unfold stepB; rw [HH.out]; simp [hz]
          go_wp2
          refine wp_region_later (by kernel_rfl) (by kernel_rfl) ?_
          repeat (go_big_quiet_step (first | (go_at_call 132; exact GP.out _ _)))
          refine wpQuiet_nil ?_
          rintro _ ⟨x, rfl⟩
          go_wp2
          exact ⟨⟨k + 1, by omega, by go_num, HX.out.call x.below, fun j hj => if e : j = k then by rw [e]; exact HF.out else HA.out j (by omega)⟩, by simp [intOf]; omega⟩
    · go_wp2
      go_ret
      exact ⟨ret_bool (allB_true fun j hj => HA.out j (by omega)).symm, HX.out.below⟩

theorem open_listS : openS.toList = [111, 112, 101, 110] := by rw [ByteArray.toList_eq]; rfl
theorem closed_listS : closedS.toList = [99, 108, 111, 115, 101, 100] := by rw [ByteArray.toList_eq]; rfl
theorem level_num (s : ByteArray) : inB (numI s) 1 6 = levelB s := by
  unfold levelB
  cases h : decB s
  · rw [numI_no h]; rfl
  · rw [numI_yes h]; rfl

set_option maxHeartbeats 3200000 in
theorem specFits_any (vk vp : Value) (ks ps : List Tri) (what : Int) (s : ByteArray) (w : World) (hk : TrisAt w vk ks) (hp : TrisAt w vp ps) (nk : Names ks) (np : Names ps) (hs : s.size ≤ 1048576) :
    Calls Tryz.prog 102 #[.agg #[vk, vp], .int .i64 what, .string s] w fun e w' => e = .returned (.bool (baseB ks ps && valB2 ks ps what s)) ∧ Below w.heap.size w w' := by
  have HK := hk; have HP := hp
  obtain ⟨ak, ck, rfl, -, -, -⟩ := hk
  obtain ⟨ap, cp, rfl, -, -, -⟩ := hp
  have HK1 : Hid (TrisAt w (.slice ak ks.length ck) ks) := HK
  have HP1 : Hid (TrisAt w (.slice ap ps.length cp) ps) := HP
  have HB : Hid (∀ wx : World, Below w.heap.size w wx → Calls Tryz.prog 44 #[.agg #[.slice ak ks.length ck, .slice ap ps.length cp]] wx fun e w' => e = .returned (.bool (baseB ks ps)) ∧ Below wx.heap.size wx w') := fun wx hx => specBase_any _ _ ks ps wx (HK.keep hx) (HP.keep hx) nk np
  have HCUT : Hid (∀ wx : World, Calls Tryz.prog 68 #[.string s, .int .u8 32] wx fun e w' => ∃ v, e = .returned v ∧ StrsAt w' v (cutW s) ∧ Below wx.heap.size wx w') :=
    fun wx => (l2Cut_any s wx hs).mono fun e w' ⟨v, ws, he, hst, hm, hb⟩ => ⟨v, he, cutW_eq hm ▸ hst, hb⟩
  have HSZ : Hid (∀ x ∈ cutW s, x.size ≤ 1048576) := fun x hx => Nat.le_trans (cutW_size s x hx) hs
  clear HK HP nk np
  cases hbb : baseB ks ps
  · have HBB : Hid (baseB ks ps = false) := hbb
    rw [Bool.false_and]; clear hbb
    go_enter Tryz.func102, Tryz.ntmps102
    go_wp2_with fail
    refine (HB.out _ ((Below.refl _ _).alloc (Nat.le_refl _) _)).mono ?_
    rw [HBB.out]
    rintro e w1 ⟨rfl, hb1⟩
    go_wp2
    go_ret
    exact ⟨rfl, below_step ((Below.refl _ _).alloc (Nat.le_refl _) _) hb1⟩
  have HBB : Hid (baseB ks ps = true) := hbb
  have HKA : Hid (∀ i, i < ks.length → ascB ks i = true) := kinds_asc (by unfold baseB at hbb; rw [Bool.and_eq_true] at hbb; exact hbb.1)
  have HPA : Hid (∀ i, i < ps.length → ascB ps i = true) := points_asc (by unfold baseB at hbb; rw [Bool.and_eq_true] at hbb; exact hbb.2)
  rw [Bool.true_and]; clear hbb
  have HV : Hid (∀ k : Int, what = k → valB2 ks ps what s = valB2 ks ps k s) := fun k hk => by rw [hk]
  generalize hcw : cutW s = ws at *
  have E2 : Hid (valB2 ks ps 2 s = timeB ws) := by show _ = _; rw [← hcw]; rfl
  have E4 : Hid (valB2 ks ps 4 s = routeB ps ws) := by show _ = _; rw [← hcw]; rfl
  clear hcw
  have E1 : Hid (valB2 ks ps 1 s = hasB ks s) := rfl
  have E3 : Hid (valB2 ks ps 3 s = levelB s) := rfl
  have E5 : Hid (valB2 ks ps 5 s = stateB s) := rfl
  have E6 : Hid (¬ what = 1 → ¬ what = 2 → ¬ what = 3 → ¬ what = 4 → ¬ what = 5 → valB2 ks ps what s = false) := fun h1 h2 h3 h4 h5 => by simp [valB2, h1, h2, h3, h4, h5]
  go_enter Tryz.func102, Tryz.ntmps102
  go_wp2_with fail
  refine (HB.out _ ((Below.refl _ _).alloc (Nat.le_refl _) _)).mono ?_
  rw [HBB.out]
  rintro e w1 ⟨rfl, hb1⟩
  have hx1 : Boxed w w1 (.slice ak ks.length ck) (.slice ap ps.length cp) := (Boxed.start w _ _ _).call hb1
  have HX1 : Hid (Boxed w w1 (.slice ak ks.length ck) (.slice ap ps.length cp)) := hx1
  clear hx1 hb1
  go_wp2_with fail
  refine (HCUT.out _).mono ?_
  rintro e w2 ⟨v, rfl, hst, hb2⟩
  have hx2 := HX1.out.call hb2
  have x0 := hx2.c0
  have x1 := hx2.c1
  have HX2 : Hid (Boxed w w2 (.slice ak ks.length ck) (.slice ap ps.length cp)) := hx2
  have HST : Hid (StrsAt w2 v ws) := hst
  obtain ⟨g, off, cap, rfl, -, -, -⟩ := hst
  clear hx2 hb2 HX1 HB HCUT
  by_cases h1 : what = 1
  · subst h1
    go_wp2_with fail
    refine (l1Kind_any _ _ ks s _ (HK1.out.keep HX2.out.below)).mono ?_
    rintro e w3 ⟨rfl, hb3⟩
    go_wp2
    go_ret
    exact ⟨ret_bool (by rw [E1.out]; rw [atI_has]; exact (has_mem HKA.out).symm), below_step HX2.out.below hb3⟩
  have g1 : (what == 1) = false := by simp [h1]
  by_cases h2 : what = 2
  · subst h2
    go_wp2_with fail
    refine (l2TimeOk_any _ ws _ HST.out HSZ.out).mono ?_
    rintro e w3 ⟨rfl, hb3⟩
    go_wp2
    go_ret
    exact ⟨ret_bool E2.out.symm, below_step HX2.out.below hb3⟩
  have g2 : (what == 2) = false := by simp [h2]
  by_cases h3 : what = 3
  · subst h3
    go_wp2_with fail
    refine (l2Number_any s _ (by unfold maxLen; omega)).mono ?_
    rintro e w3 ⟨rfl, rfl⟩
    go_wp2_with fail
    refine (l1In_any _ _ _ _).mono ?_
    rintro e w4 ⟨rfl, rfl⟩
    go_wp2
    go_ret
    exact ⟨ret_bool (by rw [E3.out]; exact level_num s), HX2.out.below⟩
  have g3 : (what == 3) = false := by simp [h3]
  by_cases h4 : what = 4
  · subst h4
    go_wp2_with fail
    refine (l2RouteOk_any _ _ _ ps ws _ (HP1.out.keep HX2.out.below) HST.out fun x => (has_mem HPA.out).symm).mono ?_
    rintro e w3 ⟨rfl, hb3⟩
    go_wp2
    go_ret
    exact ⟨ret_bool E4.out.symm, below_step HX2.out.below hb3⟩
  have g4 : (what == 4) = false := by simp [h4]
  by_cases h5 : what = 5
  · subst h5
    by_cases q1 : s = openS
    · have r1 : (s.toList == [111, 112, 101, 110]) = true := open_listS ▸ str_eq q1
      have HF : Hid (stateB s = true) := by show stateB s = true; simp [stateB, q1]
      clear q1
      go_wp2
      go_ret
      exact ⟨ret_bool (by rw [E5.out, HF.out]), HX2.out.below⟩
    · have r1 : (s.toList == [111, 112, 101, 110]) = false := open_listS ▸ str_ne q1
      by_cases q2 : s = closedS
      · have r2 : (s.toList == [99, 108, 111, 115, 101, 100]) = true := closed_listS ▸ str_eq q2
        have HF : Hid (stateB s = true) := by show stateB s = true; simp [stateB, q2]
        clear q1 q2
        go_wp2
        go_ret
        exact ⟨ret_bool (by rw [E5.out, HF.out]), HX2.out.below⟩
      · have r2 : (s.toList == [99, 108, 111, 115, 101, 100]) = false := closed_listS ▸ str_ne q2
        have HF : Hid (stateB s = false) := by show stateB s = false; simp [stateB, q1, q2]
        clear q1 q2
        go_wp2
        go_ret
        exact ⟨ret_bool (by rw [E5.out, HF.out]), HX2.out.below⟩
  have g5 : (what == 5) = false := by simp [h5]
  have HF : Hid (valB2 ks ps what s = false) := E6.out h1 h2 h3 h4 h5
  clear h1 h2 h3 h4 h5
  go_wp2
  go_ret
  exact ⟨ret_bool HF.out.symm, HX2.out.below⟩

set_option maxHeartbeats 1600000 in
theorem specChangeOk_any (vk vp : Value) (ks ps : List Tri) (c : Chg) (w : World) (hk : TrisAt w vk ks) (hp : TrisAt w vp ps) (nk : Names ks) (np : Names ps) (hf : c.f.size ≤ 1048576) (hs : c.v.size ≤ 1048576) :
    Calls Tryz.prog 84 #[.agg #[vk, vp], .agg #[.string c.f, .int .i64 c.what, .int .i64 c.num, .string c.v]] w fun e w' => e = .returned (.bool (baseB ks ps && fitB ks ps c)) ∧ Below w.heap.size w w' := by
  have HK := hk; have HP := hp
  obtain ⟨ak, ck, rfl, -, -, -⟩ := hk
  obtain ⟨ap, cp, rfl, -, -, -⟩ := hp
  have HF : Hid (∀ wx : World, Below w.heap.size w wx → Calls Tryz.prog 102 #[.agg #[.slice ak ks.length ck, .slice ap ps.length cp], .int .i64 c.what, .string c.v] wx fun e w' => e = .returned (.bool (baseB ks ps && valB2 ks ps c.what c.v)) ∧ Below wx.heap.size wx w') := fun wx hx => specFits_any _ _ ks ps c.what c.v wx (HK.keep hx) (HP.keep hx) nk np hs
  clear HK HP nk np
  obtain ⟨f, what, num, v⟩ := c
  dsimp only at *
  have HE : Hid ((baseB ks ps && fitB ks ps ⟨f, what, num, v⟩) = (nameB f && (inB num 1 1000000 && (baseB ks ps && valB2 ks ps what v)))) := by
    show (baseB ks ps && (nameB f && (inB num 1 1000000 && valB2 ks ps what v))) = _
    cases baseB ks ps <;> cases nameB f <;> cases inB num 1 1000000 <;> rfl
  generalize (baseB ks ps && fitB ks ps ⟨f, what, num, v⟩) = res at *
  generalize (baseB ks ps && valB2 ks ps what v) = b3 at *
  go_enter Tryz.func84, Tryz.ntmps84
  go_wp2_with fail
  refine (l1NameOk_any f _ (by unfold maxLen; omega)).mono ?_
  generalize nameB f = b1 at *
  rintro e w1 ⟨rfl, rfl⟩
  cases b1
  · go_wp2
    go_ret
    exact ⟨ret_bool (by rw [HE.out]; rfl), ((Below.refl _ _).alloc (Nat.le_refl _) _).alloc (by simp) _⟩
  · go_wp2_with fail
    refine (l1In_any _ _ _ _).mono ?_
    generalize inB num 1 1000000 = b2 at *
    rintro e w2 ⟨rfl, rfl⟩
    cases b2
    · go_wp2
      go_ret
      exact ⟨ret_bool (by rw [HE.out]; rfl), ((Below.refl _ _).alloc (Nat.le_refl _) _).alloc (by simp) _⟩
    · go_wp2_with fail
      refine (HF.out _ (((Below.refl _ _).alloc (Nat.le_refl _) _).alloc (by simp) _)).mono ?_
      rintro e w3 ⟨rfl, hb3⟩
      go_wp2
      go_ret
      exact ⟨ret_bool (by rw [HE.out]; rfl), below_step (((Below.refl _ _).alloc (Nat.le_refl _) _).alloc (by simp) _) hb3⟩
end Go.Proofs.YtfjblenkcfdbiaaGreatDoor
