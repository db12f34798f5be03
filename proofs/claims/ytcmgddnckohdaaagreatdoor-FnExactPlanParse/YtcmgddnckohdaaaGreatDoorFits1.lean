import Derived.Test.YtcmgddnckohdaaaGreatDoorMark1

namespace Go.Proofs.YtcmgddnckohdaaaGreatDoor
open Go.RowKit
attribute [local go_sem] Later.cell Later.frozen
set_option maxHeartbeats 800000 in
theorem eqBase_any (vk vp uk up : Value) (ks ps : List Tri) (w : World) (hk : TrisAt w vk ks) (hp : TrisAt w vp ps) (hk' : TrisAt w uk ks) (hp' : TrisAt w up ps) :
    Calls Tryz.prog 56 #[.agg #[vk, vp], .agg #[uk, up]] w fun e w' => e = .returned (.bool true) ∧ Below w.heap.size w w' := by
  have HK := hk; have HP := hp; have HK' := hk'; have HP' := hp'
  obtain ⟨ak, ck, rfl, -, -, -⟩ := hk
  obtain ⟨ap, cp, rfl, -, -, -⟩ := hp
  obtain ⟨ak', ck', rfl, -, -, -⟩ := hk'
  obtain ⟨ap', cp', rfl, -, -, -⟩ := hp'
  have H1 : Hid (TrisAt w (.slice ak ks.length ck) ks ∧ TrisAt w (.slice ak' ks.length ck') ks) := ⟨HK, HK'⟩
  have H2 : Hid (TrisAt w (.slice ap ps.length cp) ps ∧ TrisAt w (.slice ap' ps.length cp') ps) := ⟨HP, HP'⟩
  clear HK HP HK' HP'
  go_enter Tryz.func56, Tryz.ntmps56
  go_wp2_with fail
  refine (eqKinds_any _ _ ks _ ((H1.out.1.alloc _).alloc _) ((H1.out.2.alloc _).alloc _)).mono ?_
  rintro e w1 ⟨rfl, hb1⟩
  have c01 : w1.cell? ⟨w.heap.size, 1, none⟩ = some (.slice ap ps.length cp) := cell_keep hb1 (Nat.le_refl _) (by simp [go_sem])
  have c11 : w1.cell? ⟨w.heap.size + 1, 1, none⟩ = some (.slice ap' ps.length cp') := cell_keep hb1 (Nat.le_refl _) (by simp [go_sem])
  have hbw : Below w.heap.size w w1 := below_step (((Below.refl _ _).alloc (Nat.le_refl _) _).alloc (by simp) _) hb1
  go_wp2_with fail
  refine (eqPoints_any _ _ ps _ (H2.out.1.keep hbw) (H2.out.2.keep hbw)).mono ?_
  rintro e w2 ⟨rfl, hb2⟩
  go_wp2
  go_ret
  exact ⟨rfl, below_step hbw hb2⟩
structure Boxed (w wr : World) (vk vp : Value) : Prop where
  below : Below w.heap.size w wr
  big : w.heap.size < wr.heap.size
  c0 : wr.cell? ⟨w.heap.size, 0, none⟩ = some vk
  c1 : wr.cell? ⟨w.heap.size, 1, none⟩ = some vp
theorem Boxed.start (w : World) (vk vp : Value) (T : TypeId) : Boxed w (w.alloc (.cells #[vk, vp] T)) vk vp :=
  ⟨(Below.refl _ _).alloc (Nat.le_refl _) _, by simp, by simp [go_sem], by simp [go_sem]⟩
theorem Boxed.call {w wr w' : World} {vk vp : Value} (h : Boxed w wr vk vp) (hb : Below wr.heap.size wr w') : Boxed w w' vk vp :=
  ⟨below_step h.below hb, Nat.lt_of_lt_of_le h.big hb.size, cell_keep hb (Nat.le_refl _) h.c0, cell_keep hb (Nat.le_refl _) h.c1⟩
theorem Boxed.drew {w wr : World} {vk vp : Value} (h : Boxed w wr vk vp) : Boxed w wr.drew vk vp :=
  ⟨h.below.drew, h.big, by simpa using h.c0, by simpa using h.c1⟩
theorem Boxed.drewN {w wr : World} {vk vp : Value} (h : Boxed w wr vk vp) (n : Nat) : Boxed w (wr.drewN n) vk vp :=
  h.call (below_drewN (Below.refl _ _) n)
def kRound (l : List Tri) (k : Nat) : Bool := kindOkB (at' l k) && ascB l k
def pRound (l : List Tri) (k : Nat) : Bool := (pointOkB (at' l k) && ascB l k) && allB k fun i => !sameB (at' l i) (at' l k)
set_option maxRecDepth 100000 in
set_option maxHeartbeats 3200000 in
theorem specBase_any (vk vp : Value) (ks ps : List Tri) (w : World) (hk : TrisAt w vk ks) (hp : TrisAt w vp ps) (nk : Names ks) (np : Names ps) :
    Calls Tryz.prog 47 #[.agg #[vk, vp]] w fun e w' => e = .returned (.bool (kindsB ks && pointsB ps)) ∧ Below w.heap.size w w' := by
  have HK := hk; have HP := hp
  obtain ⟨ak, ck, rfl, lk, mk, ek⟩ := hk
  obtain ⟨ap, cp, rfl, lp, mp, ep⟩ := hp
  unfold maxLen at mk mp
  have HK1 : Hid (TrisAt w (.slice ak ks.length ck) ks) := HK
  have HP1 : Hid (TrisAt w (.slice ap ps.length cp) ps) := HP
  have NK : Hid (Names ks) := nk
  have NP : Hid (Names ps) := np
  have EK : Hid (∀ i t, ks[i]? = some t → ∃ b off, ak = some ⟨b, off, none⟩ ∧ TriAt w b (off + i * 3) t) := ek
  have EP : Hid (∀ i t, ps[i]? = some t → ∃ b off, ap = some ⟨b, off, none⟩ ∧ TriAt w b (off + i * 3) t) := ep
  clear HK HP nk np ek ep
  by_cases h1 : (6 : Int) < (ks.length : Int)
  · have e : (kindsB ks && pointsB ps) = false := by
      have : ¬ ks.length ≤ 6 := by omega
      rw [kindsB_eq]; simp [this]
    rw [e]; clear e
    go_enter Tryz.func47, Tryz.ntmps47
    go_wp2
    go_ret
    exact ⟨rfl, (Below.refl _ _).alloc (Nat.le_refl _) _⟩
  by_cases h2 : (16 : Int) < (ps.length : Int)
  · have e : (kindsB ks && pointsB ps) = false := by
      have : ¬ ps.length ≤ 16 := by omega
      rw [pointsB_eq]; simp [this]
    rw [e]; clear e
    go_enter Tryz.func47, Tryz.ntmps47
    go_wp2
    go_ret
    exact ⟨rfl, (Below.refl _ _).alloc (Nat.le_refl _) _⟩
  have hbk : kindsB ks = allB ks.length (kRound ks) := by rw [kindsB_eq]; have : ks.length ≤ 6 := by omega
                                                          simp only [this, decide_true, Bool.true_and]; rfl
  have HBK : Hid (kindsB ks = allB ks.length (kRound ks)) := hbk
  have hbp : pointsB ps = allB ps.length (pRound ps) := by rw [pointsB_eq]; have : ps.length ≤ 16 := by omega
                                                           simp only [this, decide_true, Bool.true_and]; rfl
  have HBP : Hid (pointsB ps = allB ps.length (pRound ps)) := hbp
  clear hbk hbp
  go_enter Tryz.func47, Tryz.ntmps47
  go_wp2
  go_loopw [3] (fun i wr => ∃ k : Nat, k ≤ ks.length ∧ i = .int .i64 k ∧ Boxed w wr (.slice ak ks.length ck) (.slice ap ps.length cp) ∧ Hid (∀ j, j < k → kRound ks j = true)) (fun i _ => ks.length - (intOf i).toNat)
  case atStart => exact ⟨0, Nat.zero_le _, rfl, Boxed.start _ _ _ _, fun j hj => absurd hj (Nat.not_lt_zero _)⟩
  case round =>
    obtain ⟨k, hk, rfl, hx, HA⟩ := hrel
    have x0 := hx.c0
    have x1 := hx.c1
    have xz := hx.big
    have HX : Hid (Boxed w wr (.slice ak ks.length ck) (.slice ap ps.length cp)) := hx
    clear hx
    by_cases hlt : k < ks.length
    · obtain ⟨b, off, rfl, hc⟩ := EK.out k _ (at_get hlt)
      obtain ⟨d0, d1, d2⟩ := hc.keep HX.out.below (Nat.le_refl _)
      have hsk : (at' ks k).s.size ≤ maxLen := NK.out _ (List.mem_of_getElem? (at_get hlt))
      have BAD : Hid (kRound ks k = false → (kindsB ks && pointsB ps) = false) := fun h => by rw [HBK.out, allB_false hlt h]; rfl
      have KR : Hid (kRound ks k = (kindOkB (at' ks k) && ascB ks k)) := rfl
      have hk0 : (0 : Int) ≤ (k : Int) := by omega
      have hk1 : (k : Int) < (ks.length : Int) := by omega
      have hbl : b < wr.heap.size := lt_of_cell d0
      have go1 : ∀ (v : Bool), Hid (kindOkB (at' ks k) = v) → ∀ x : Later wr, Calls Tryz.prog 87 #[.agg #[.string (at' ks k).s, .int .i64 (at' ks k).x, .int .i64 (at' ks k).y]] x.val fun e w'' => e = .returned (.bool v) ∧ ∃ y : Later wr, w'' = y.val :=
        fun v hv x => Calls.later (hv.out ▸ l1KindOk_any (at' ks k) x.val hsk)
      have GO : Hid (∀ (v : Bool), Hid (kindOkB (at' ks k) = v) → ∀ x : Later wr, Calls Tryz.prog 87 #[.agg #[.string (at' ks k).s, .int .i64 (at' ks k).x, .int .i64 (at' ks k).y]] x.val fun e w'' => e = .returned (.bool v) ∧ ∃ y : Later wr, w'' = y.val) := go1
      clear go1
      have hne := Later.some wr
      cases ho : kindOkB (at' ks k)
      · have HO : Hid (kindOkB (at' ks k) = false) := ho
        clear ho
        go_wp2
        refine wp_region_later (by kernel_rfl) (by kernel_rfl) ?_
        repeat (go_big_quiet_step (exact GO.out _ HO _))
        refine wpQuiet_nil ?_
        rintro _ ⟨x, rfl⟩
        go_wp2
        go_ret
        exact ⟨ret_bool (BAD.out (by rw [KR.out, HO.out]; rfl)).symm, below_step HX.out.below x.below⟩
      · have HO : Hid (kindOkB (at' ks k) = true) := ho
        clear ho
        by_cases hkz : (0 : Int) < (k : Int)
        · have hg : 0 < k := by omega
          obtain ⟨b', off', hbo, hcm'⟩ := EK.out (k - 1) _ (at_get (by omega))
          cases hbo
          obtain ⟨m0, -, -⟩ := hcm'.keep HX.out.below (Nat.le_refl _)
          have AS : Hid (ascB ks k = !geB (at' ks (k - 1)).s (at' ks k).s) := by
            show ascB ks k = _
            obtain ⟨m, rfl⟩ : ∃ m, k = m + 1 := ⟨k - 1, by omega⟩
            exact asc_succ ks m
          clear hcm' hc
          have hi0 : (0 : Int) ≤ (k : Int) - 1 := by omega
          have hi1 : (k : Int) - 1 < (ks.length : Int) := by omega
          go_wp2
          refine wp_region_later (by kernel_rfl) (by kernel_rfl) ?_
          repeat (go_big_quiet_step (exact GO.out _ HO _))
          refine wpQuiet_nil ?_
          rintro _ ⟨x, rfl⟩
          go_wp2
          · rename_i h
            go_ret
            exact ⟨ret_bool (BAD.out (by rw [KR.out, HO.out, AS.out]; unfold geB; rw [h]; rfl)).symm, below_step HX.out.below x.below⟩
          · rename_i h
            exact ⟨⟨k + 1, by omega, by go_num, HX.out.call x.below, fun j hj => if e : j = k then by rw [e, KR.out, HO.out, AS.out]; unfold geB; rw [h]; rfl else HA.out j (by omega)⟩, by simp [intOf]; omega⟩
        · have hg : decide (0 < k) = false := by simp; omega
          go_wp2
          refine wp_region_later (by kernel_rfl) (by kernel_rfl) ?_
          repeat (go_big_quiet_step (exact GO.out _ HO _))
          refine wpQuiet_nil ?_
          rintro _ ⟨x, rfl⟩
          go_wp2
          exact ⟨⟨k + 1, by omega, by go_num, HX.out.call x.below, fun j hj => by
            obtain rfl : j = k := by omega
            rw [KR.out, HO.out]; obtain rfl : j = 0 := by omega
            rw [asc_zero]; rfl⟩, by simp [intOf]; omega⟩
    · have HKT : Hid (kindsB ks = true) := HBK.out.trans (allB_true fun j hj => HA.out j (by omega))
      go_wp2
      clear HA EK NK HBK
      go_loopw [4, 5] (fun i _ wr => ∃ k : Nat, k ≤ ps.length ∧ i = .int .i64 k ∧ Boxed w wr (.slice ak ks.length ck) (.slice ap ps.length cp) ∧ Hid (∀ j, j < k → pRound ps j = true)) (fun i _ _ => ps.length - (intOf i).toNat)
      case atStart => exact ⟨0, Nat.zero_le _, rfl, HX.out, fun j hj => absurd hj (Nat.not_lt_zero _)⟩
      case round =>
        clear HX x0 x1 xz hlt hk
        obtain ⟨k, hk, rfl, hx, HA⟩ := hrel
        have x0 := hx.c0
        have x1 := hx.c1
        have xz := hx.big
        have HX : Hid (Boxed w wr (.slice ak ks.length ck) (.slice ap ps.length cp)) := hx
        clear hx
        by_cases hlt : k < ps.length
        · obtain ⟨b, off, rfl, hc⟩ := EP.out k _ (at_get hlt)
          obtain ⟨d0, d1, d2⟩ := hc.keep HX.out.below (Nat.le_refl _)
          have hsk : (at' ps k).s.size ≤ maxLen := NP.out _ (List.mem_of_getElem? (at_get hlt))
          have BAD : Hid (pRound ps k = false → (kindsB ks && pointsB ps) = false) := fun h => by rw [HKT.out, HBP.out, allB_false hlt h]; rfl
          have PR : Hid (pRound ps k = ((pointOkB (at' ps k) && ascB ps k) && allB k fun i => !sameB (at' ps i) (at' ps k))) := rfl
          have hk0 : (0 : Int) ≤ (k : Int) := by omega
          have hk1 : (k : Int) < (ps.length : Int) := by omega
          have hbl : b < wr.heap.size := lt_of_cell d0
          have GO : Hid (∀ (v : Bool), Hid (pointOkB (at' ps k) = v) → ∀ x : Later wr, Calls Tryz.prog 88 #[.agg #[.string (at' ps k).s, .int .i64 (at' ps k).x, .int .i64 (at' ps k).y]] x.val fun e w'' => e = .returned (.bool v) ∧ ∃ y : Later wr, w'' = y.val) :=
            fun v hv x => Calls.later (hv.out ▸ l1PointOk_any (at' ps k) x.val hsk)
          have hne := Later.some wr
          have HCK : Hid (TriAt w b (off + k * 3) (at' ps k)) := hc
          cases ho : pointOkB (at' ps k)
          · have HO : Hid (pointOkB (at' ps k) = false) := ho
            clear ho
            go_wp2
            refine wp_region_later (by kernel_rfl) (by kernel_rfl) ?_
            repeat (go_big_quiet_step (exact GO.out _ HO _))
            refine wpQuiet_nil ?_
            rintro _ ⟨x, rfl⟩
            go_wp2
            go_ret
            exact ⟨ret_bool (BAD.out (by rw [PR.out, HO.out]; rfl)).symm, below_step HX.out.below x.below⟩
          · have HO : Hid (pointOkB (at' ps k) = true) := ho
            clear ho
            by_cases hkz : (0 : Int) < (k : Int)
            · have hg : 0 < k := by omega
              obtain ⟨b', off', hbo, hcm'⟩ := EP.out (k - 1) _ (at_get (by omega))
              cases hbo
              obtain ⟨m0, -, -⟩ := hcm'.keep HX.out.below (Nat.le_refl _)
              have AS : Hid (ascB ps k = !geB (at' ps (k - 1)).s (at' ps k).s) := by
                show ascB ps k = _
                obtain ⟨m, rfl⟩ : ∃ m, k = m + 1 := ⟨k - 1, by omega⟩
                exact asc_succ ps m
              clear hcm' hc
              have hi0 : (0 : Int) ≤ (k : Int) - 1 := by omega
              have hi1 : (k : Int) - 1 < (ps.length : Int) := by omega
              go_wp2
              refine wp_region_later (by kernel_rfl) (by kernel_rfl) ?_
              repeat (go_big_quiet_step (exact GO.out _ HO _))
              refine wpQuiet_nil ?_
              rintro _ ⟨x, rfl⟩
              go_wp2
              · rename_i h
                go_ret
                exact ⟨ret_bool (BAD.out (by rw [PR.out, HO.out, AS.out]; unfold geB; rw [h]; rfl)).symm, below_step HX.out.below x.below⟩
              · rename_i h
                have HAS : Hid (ascB ps k = true) := by
                  show ascB ps k = true
                  rw [AS.out]; unfold geB; rw [h]; rfl
                clear m0
                have hy0 : Boxed w x.val (.slice ak ks.length ck) (.slice (some ⟨b, off, none⟩) ps.length cp) := HX.out.call x.below
                have HY0 : Hid (Boxed w x.val (.slice ak ks.length ck) (.slice (some ⟨b, off, none⟩) ps.length cp)) := hy0
                clear hy0 GO HX x0 x1 xz d0 d1 d2 hbl hne
                go_loopw [5] (fun i wr => ∃ j : Nat, j ≤ k ∧ i = .int .i64 j ∧ Boxed w wr (.slice ak ks.length ck) (.slice (some ⟨b, off, none⟩) ps.length cp) ∧ Hid (∀ q, q < j → (!sameB (at' ps q) (at' ps k)) = true)) (fun i _ => k - (intOf i).toNat)
                case atStart => exact ⟨0, Nat.zero_le _, rfl, HY0.out, fun j hj => absurd hj (Nat.not_lt_zero _)⟩
                case round =>
                  clear HY0
                  obtain ⟨j, hj, rfl, hy, HB⟩ := hrel
                  have y0 := hy.c0
                  have y1 := hy.c1
                  have yz := hy.big
                  have HY : Hid (Boxed w wr (.slice ak ks.length ck) (.slice (some ⟨b, off, none⟩) ps.length cp)) := hy
                  clear hy
                  by_cases hjk : j < k
                  · obtain ⟨b', off', hbo, hcj⟩ := EP.out j _ (at_get (by omega))
                    cases hbo
                    obtain ⟨-, e1, e2⟩ := hcj.keep HY.out.below (Nat.le_refl _)
                    obtain ⟨-, f1, f2⟩ := HCK.out.keep HY.out.below (Nat.le_refl _)
                    have hj0 : (0 : Int) ≤ (j : Int) := by omega
                    have hj1 : (j : Int) < (ps.length : Int) := by omega
                    have SM : Hid (sameB (at' ps j) (at' ps k) = (decide ((at' ps j).x = (at' ps k).x) && decide ((at' ps j).y = (at' ps k).y))) := rfl
                    have BADI : Hid ((!sameB (at' ps j) (at' ps k)) = false → (kindsB ks && pointsB ps) = false) := fun h => BAD.out (by rw [PR.out, allB_false hjk h, Bool.and_false])
                    clear hcj
                    by_cases hxx : (at' ps j).x = (at' ps k).x
                    · have hxb : ((at' ps j).x == (at' ps k).x) = true := by simp [hxx]
                      have HXX : Hid ((at' ps j).x = (at' ps k).x) := hxx
                      clear hxx
                      by_cases hyy : (at' ps j).y = (at' ps k).y
                      · have hyb : ((at' ps j).y == (at' ps k).y) = true := by simp [hyy]
                        have HYY : Hid ((at' ps j).y = (at' ps k).y) := hyy
                        clear hyy
                        go_wp2
                        refine wp_region_quiet_lit (by kernel_rfl) (by kernel_rfl) ?_
                        repeat (go_big_quiet_step (fail))
                        refine wpQuiet_nil ?_
                        rintro _ ⟨nq, rfl⟩
                        go_wp2
                        go_ret
                        exact ⟨ret_bool (BADI.out (by rw [SM.out, HXX.out, HYY.out]; simp)).symm, below_drewN HY.out.below _⟩
                      · have hyb : ((at' ps j).y == (at' ps k).y) = false := by simp [hyy]
                        have HYY : Hid (¬ (at' ps j).y = (at' ps k).y) := hyy
                        clear hyy
                        go_wp2
                        refine wp_region_quiet_lit (by kernel_rfl) (by kernel_rfl) ?_
                        repeat (go_big_quiet_step (fail))
                        refine wpQuiet_nil ?_
                        rintro _ ⟨nq, rfl⟩
                        go_wp2
                        exact ⟨⟨j + 1, by omega, by go_num, HY.out.drewN _, fun q hq => if e : q = j then by rw [e, SM.out]; simp [HYY.out] else HB.out q (by omega)⟩, by simp [intOf]; omega⟩
                    · have hxb : ((at' ps j).x == (at' ps k).x) = false := by simp [hxx]
                      have HXX : Hid (¬ (at' ps j).x = (at' ps k).x) := hxx
                      clear hxx
                      go_wp2
                      refine wp_region_quiet_lit (by kernel_rfl) (by kernel_rfl) ?_
                      repeat (go_big_quiet_step (fail))
                      refine wpQuiet_nil ?_
                      rintro _ ⟨nq, rfl⟩
                      go_wp2
                      exact ⟨⟨j + 1, by omega, by go_num, HY.out.drewN _, fun q hq => if e : q = j then by rw [e, SM.out]; simp [HXX.out] else HB.out q (by omega)⟩, by simp [intOf]; omega⟩
                  · have HPT : Hid (pRound ps k = true) := by
                      show pRound ps k = true
                      rw [PR.out, HO.out, HAS.out, allB_true fun q hq => HB.out q (by omega)]; rfl
                    go_wp2
                    exact ⟨⟨k + 1, by omega, by go_num, HY.out, fun q hq => if e : q = k then by rw [e]; exact HPT.out else HA.out q (by omega)⟩, by simp [intOf]; omega⟩
            · have hg : decide (0 < k) = false := by simp; omega
              go_wp2
              refine wp_region_later (by kernel_rfl) (by kernel_rfl) ?_
              repeat (go_big_quiet_step (exact GO.out _ HO _))
              refine wpQuiet_nil ?_
              rintro _ ⟨x, rfl⟩
              go_wp2
              have HAS : Hid (ascB ps k = true) := by
                show ascB ps k = true
                obtain rfl : k = 0 := by omega
                exact asc_zero ps
              have hy0 : Boxed w x.val (.slice ak ks.length ck) (.slice (some ⟨b, off, none⟩) ps.length cp) := HX.out.call x.below
              have HY0 : Hid (Boxed w x.val (.slice ak ks.length ck) (.slice (some ⟨b, off, none⟩) ps.length cp)) := hy0
              clear hy0 GO HX x0 x1 xz d0 d1 d2 hbl hne
              go_loopw [5] (fun i wr => ∃ j : Nat, j ≤ k ∧ i = .int .i64 j ∧ Boxed w wr (.slice ak ks.length ck) (.slice (some ⟨b, off, none⟩) ps.length cp) ∧ Hid (∀ q, q < j → (!sameB (at' ps q) (at' ps k)) = true)) (fun i _ => k - (intOf i).toNat)
              case atStart => exact ⟨0, Nat.zero_le _, rfl, HY0.out, fun j hj => absurd hj (Nat.not_lt_zero _)⟩
              case round =>
                clear HY0
                obtain ⟨j, hj, rfl, hy, HB⟩ := hrel
                have y0 := hy.c0
                have y1 := hy.c1
                have yz := hy.big
                have HY : Hid (Boxed w wr (.slice ak ks.length ck) (.slice (some ⟨b, off, none⟩) ps.length cp)) := hy
                clear hy
                by_cases hjk : j < k
                · exact absurd hjk (by omega)
                · have HPT : Hid (pRound ps k = true) := by
                    show pRound ps k = true
                    rw [PR.out, HO.out, HAS.out, allB_true fun q hq => HB.out q (by omega)]; rfl
                  go_wp2
                  exact ⟨⟨k + 1, by omega, by go_num, HY.out, fun q hq => if e : q = k then by rw [e]; exact HPT.out else HA.out q (by omega)⟩, by simp [intOf]; omega⟩
        · go_wp2
          go_ret
          exact ⟨ret_bool (by rw [HKT.out, HBP.out, allB_true fun j hj => HA.out j (by omega)]; rfl), HX.out.below⟩
end Go.Proofs.YtcmgddnckohdaaaGreatDoor
namespace Go.Proofs.YtcmgddnckohdaaaGreatDoor
open Go.RowKit
def EntsOwn (lo : Nat) (w : World) (v : Value) (l : List Ent) : Prop :=
 ∃ (b : Nat) (rows : List (List Value)), lo ≤ b ∧ v = .slice (some ⟨b, 0, none⟩) l.length l.length ∧ HeldL w b l.length 2 rows ∧ rows.length = l.length ∧
  ∀ (i : Nat) (e : Ent), l[i]? = some e → ∃ fb : Nat, fb ≠ b ∧ lo ≤ fb ∧ rows[i]? = some [.string e.name, .slice (some ⟨fb, 0, none⟩) e.fs.length e.fs.length] ∧ HeldL w fb e.fs.length 3 (e.fs.map fldRow)
theorem HeldL.flds {wr : World} {B n : Nat} {l : List Fld} (h : HeldL wr B n 3 (l.map fldRow)) (hn : l.length = n) (cap : Nat) (hc : n ≤ cap) (hm : cap ≤ maxLen) : FldsAt wr (.slice (some ⟨B, 0, none⟩) n cap) l :=
 ⟨some ⟨B, 0, none⟩, cap, by rw [hn], by omega, hm, fun i f hf => ⟨B, 0, rfl, by
  have hr : (l.map fldRow)[i]? = some (fldRow f) := by rw [List.getElem?_map, hf]; rfl
  refine ⟨?_, ?_, ?_⟩
  ·simpa using h.cell hr (j := 0) (v := .int .i64 f.what) rfl
  ·simpa using h.cell hr (j := 1) (v := .int .i64 f.num) rfl
  ·simpa using h.cell hr (j := 2) (v := .string f.v) rfl⟩⟩
theorem EntsOwn.at {lo : Nat} {w : World} {v : Value} {l : List Ent} (h : EntsOwn lo w v l) (hm : l.length ≤ 1048576) (hf : ∀ e ∈ l, e.fs.length ≤ 1048576) : EntsAt w v l := by
 obtain ⟨b, rows, _, rfl, hh, _, hr⟩ := h
 refine ⟨some ⟨b, 0, none⟩, l.length, rfl, Nat.le_refl _, by unfold maxLen; omega, fun i e he => ⟨b, 0, rfl, ?_⟩⟩
 obtain ⟨fb, _, _, h1, h2⟩ := hr i e he
 refine ⟨_, ?_, ?_, h2.flds rfl _ (Nat.le_refl _) (by have := hf e (List.mem_of_getElem? he); unfold maxLen; omega)⟩
 ·simpa using hh.cell h1 (j := 0) rfl
 ·simpa using hh.cell h1 (j := 1) rfl
theorem EntsOwn.keep {lo : Nat} {w w' : World} {v : Value} {l : List Ent} (h : EntsOwn lo w v l) (hb : Below w.heap.size w w') : EntsOwn lo w' v l := by
 obtain ⟨b, rows, hl, hv, hh, hn, hr⟩ := h
 refine ⟨b, rows, hl, hv, hh.keep hb, hn, fun i e he => ?_⟩
 obtain ⟨fb, h0, h1, h2, h3⟩ := hr i e he
 exact ⟨fb, h0, h1, h2, h3.keep hb⟩
theorem EntsOwn.other {lo : Nat} {w : World} {v : Value} {l : List Ent} (h : EntsOwn lo w v l) {k o : Nat} (hk : k < lo) (x : Value) : EntsOwn lo (w.setCell ⟨k, o, none⟩ x) v l := by
 obtain ⟨b, rows, hl, hv, hh, hn, hr⟩ := h
 refine ⟨b, rows, hl, hv, hh.other (by omega) x, hn, fun i e he => ?_⟩
 obtain ⟨fb, h0, h1, h2, h3⟩ := hr i e he
 exact ⟨fb, h0, h1, h2, h3.other (by omega) x⟩
theorem EntsOwn.mono {lo lo' : Nat} {w : World} {v : Value} {l : List Ent} (h : EntsOwn lo w v l) (hlo : lo' ≤ lo) : EntsOwn lo' w v l := by
 obtain ⟨b, rows, hl, hv, hh, hn, hr⟩ := h
 refine ⟨b, rows, by omega, hv, hh, hn, fun i e he => ?_⟩
 obtain ⟨fb, h0, h1, h2, h3⟩ := hr i e he
 exact ⟨fb, h0, by omega, h2, h3⟩
structure EntsTo (w wr : World) (B : Nat) (l : List Ent) (k : Nat) (rows : List (List Value)) : Prop where
 fill : FilledL w wr B l.length 2 rows
 len : rows.length = k
 has : ∀ (i : Nat) (e : Ent), i < k → l[i]? = some e → ∃ fb : Nat, fb ≠ B ∧ w.heap.size ≤ fb ∧ rows[i]? = some [.string e.name, .slice (some ⟨fb, 0, none⟩) e.fs.length e.fs.length] ∧ HeldL wr fb e.fs.length 3 (e.fs.map fldRow)
theorem EntsTo.done {w wr : World} {B lo : Nat} {l : List Ent} {rows : List (List Value)} (h : EntsTo w wr B l l.length rows) (hlo : lo ≤ w.heap.size) : EntsOwn lo wr (.slice (some ⟨B, 0, none⟩) l.length l.length) l :=
 ⟨B, rows, by have := h.fill.old; omega, rfl, h.fill.held, h.len, fun i e he => by
  obtain ⟨fb, h0, h1, h2, h3⟩ := h.has i e (List.getElem?_eq_some_iff.1 he).1 he
  exact ⟨fb, h0, by omega, h2, h3⟩⟩
set_option maxHeartbeats 800000 in
theorem eqEntries_any (v v' : Value) (l : List Ent) (w : World) (hv : EntsAt w v l) (hv' : EntsAt w v' l) :
  Calls Tryz.prog 57 #[v, v'] w fun e w' => e = .returned (.bool true) ∧ Below w.heap.size w w' := by
 obtain ⟨a, cap, rfl, hlc, hcm, hc⟩ := hv
 obtain ⟨a', cap', rfl, hlc', hcm', hc'⟩ := hv'
 unfold maxLen at hcm hcm'
 have HC : Hid (∀ i f, l[i]? = some f → ∃ b off, a = some ⟨b, off, none⟩ ∧ EntAt w b (off + i * 2) f) := hc
 have HC' : Hid (∀ i f, l[i]? = some f → ∃ b off, a' = some ⟨b, off, none⟩ ∧ EntAt w b (off + i * 2) f) := hc'
 clear hc hc'
 go_enter Tryz.func57, Tryz.ntmps57
 go_wp2
 go_loopw [5] (fun i w' => ∃ k : Nat, k ≤ l.length ∧ i = .int .i64 k ∧ Below w.heap.size w w') (fun i _ => l.length - (intOf i).toNat)
 case atStart => exact ⟨0, Nat.zero_le _, rfl, Below.refl _ _⟩
 case round =>
  obtain ⟨k, hk, rfl, hb⟩ := hrel
  by_cases hlt : k < l.length
  ·obtain ⟨b, off, rfl, hc⟩ := HC.out k _ (eat_get hlt)
   obtain ⟨b', off', rfl, hc'⟩ := HC'.out k _ (eat_get hlt)
   obtain ⟨fv, d0, d1, hfl⟩ := hc.keep hb
   obtain ⟨fv', d0', d1', hfl'⟩ := hc'.keep hb
   have HFL : Hid (FldsAt wr fv (eat l k).fs ∧ FldsAt wr fv' (eat l k).fs) := ⟨hfl, hfl'⟩
   obtain ⟨fa, fc, rfl, -, -, -⟩ := hfl
   obtain ⟨fa', fc', rfl, -, -, -⟩ := hfl'
   clear hc hc' HC HC'
   generalize eat l k = t at *
   have hk0 : (0 : Int) ≤ (k : Int) := by omega
   have hk1 : (k : Int) < (l.length : Int) := by omega
   go_wp2
   go_region_held3 (fun w' => (w'.cell? ⟨b, off + k * 2, none⟩ = some (.string t.name) ∧ w'.cell? ⟨b, off + k * 2 + 1, none⟩ = some (.slice fa t.fs.length fc) ∧
     w'.cell? ⟨b', off' + k * 2, none⟩ = some (.string t.name) ∧ w'.cell? ⟨b', off' + k * 2 + 1, none⟩ = some (.slice fa' t.fs.length fc')) ∧ Below wr.heap.size wr w')
    (first | exact ⟨⟨by simpa using d0, by simpa using d1, by simpa using d0', by simpa using d1'⟩, (Below.refl _ _).drew⟩ | (obtain ⟨⟨s0, s1, s2, s3⟩, s4⟩ := ‹_ ∧ Below wr.heap.size wr _›; exact ⟨⟨cell_keep hb1 (Nat.le_refl _) s0, cell_keep hb1 (Nat.le_refl _) s1, cell_keep hb1 (Nat.le_refl _) s2, cell_keep hb1 (Nat.le_refl _) s3⟩, below_step s4 hb1⟩))
    (first | (go_at_call 101; refine (eqEntry_any t _ _ _ (HFL.out.1.keep (‹_ ∧ Below wr.heap.size wr _›).2) (HFL.out.2.keep (‹_ ∧ Below wr.heap.size wr _›).2)).mono ?_; rintro e w1 ⟨rfl, hb1⟩))
   go_wp2
   exact ⟨⟨k + 1, by omega, by go_num, below_step hb (‹_ ∧ Below wr.heap.size wr w1›).2⟩, by simp [intOf]; omega⟩
  ·go_wp2
   go_ret
   exact ⟨rfl, hb⟩
open Go.RowKit
structure BookAt (w : World) (vk vp ve : Value) (ks ps : List Tri) (es : List Ent) : Prop where
 k : TrisAt w vk ks
 p : TrisAt w vp ps
 e : EntsAt w ve es
theorem BookAt.keep {w w' : World} {vk vp ve : Value} {ks ps : List Tri} {es : List Ent} (h : BookAt w vk vp ve ks ps es) (hb : Below w.heap.size w w') : BookAt w' vk vp ve ks ps es := ⟨h.k.keep hb, h.p.keep hb, h.e.keep hb⟩
structure BNames (ks ps : List Tri) (es : List Ent) : Prop where
 k : Names ks
 p : Names ps
 e : ENames es
structure BookOwn (lo : Nat) (w : World) (vk vp ve : Value) (ks ps : List Tri) (es : List Ent) : Prop where
 k : TrisOwn lo w vk ks
 p : TrisOwn lo w vp ps
 e : EntsOwn lo w ve es
 d : ∀ b n c b' n' c', vk = .slice (some ⟨b, 0, none⟩) n c ∨ vp = .slice (some ⟨b, 0, none⟩) n c → ve = .slice (some ⟨b', 0, none⟩) n' c' → b ≠ b'
theorem BookOwn.keep {lo : Nat} {w w' : World} {vk vp ve : Value} {ks ps : List Tri} {es : List Ent} (h : BookOwn lo w vk vp ve ks ps es) (hb : Below w.heap.size w w') : BookOwn lo w' vk vp ve ks ps es := ⟨h.k.keep hb, h.p.keep hb, h.e.keep hb, h.d⟩
def szBook (ks ps : List Tri) (es : List Ent) : Nat := szTris ks + szTris ps + szEnts es
structure BSmall (ks ps : List Tri) (es : List Ent) : Prop where
 k : ks.length ≤ 1048576
 p : ps.length ≤ 1048576
 e : es.length ≤ 1048576
 f : ∀ e ∈ es, e.fs.length ≤ 1048576
 n : ∀ e ∈ es, e.name.size ≤ 1048576
 v : ∀ e ∈ es, ∀ f ∈ e.fs, f.v.size ≤ 1048576
theorem BSmall.of {ks ps : List Tri} {es : List Ent} (h : szBook ks ps es ≤ 1048576) : BSmall ks ps es := by
 unfold szBook szTris szEnts at h
 have one : ∀ e ∈ es, szEnt e ≤ 1048576 := fun e he => by have := sumN_mem szEnt es e he; omega
 refine ⟨by omega, by omega, by omega, fun e he => ?_, fun e he => ?_, fun e he f hf => ?_⟩
 ·have := one e he; unfold szEnt szFlds at this; omega
 ·have := one e he; unfold szEnt szFlds at this; omega
 ·have := one e he; unfold szEnt szFlds at this; have h2 : f.v.size ≤ _ := sumN_mem (fun f : Fld => f.v.size) e.fs f hf; omega
theorem BookOwn.at {lo : Nat} {w : World} {vk vp ve : Value} {ks ps : List Tri} {es : List Ent} (h : BookOwn lo w vk vp ve ks ps es) (hs : BSmall ks ps es) : BookAt w vk vp ve ks ps es := ⟨h.k.at hs.k, h.p.at hs.p, h.e.at hs.e hs.f⟩
set_option maxHeartbeats 800000 in
theorem eqBook_any (vk vp ve uk up ue : Value) (ks ps : List Tri) (es : List Ent) (w : World) (hB : BookAt w vk vp ve ks ps es) (hB' : BookAt w uk up ue ks ps es) :
  Calls Tryz.prog 19 #[.agg #[vk, vp, ve], .agg #[uk, up, ue]] w fun e w' => e = .returned (.bool true) ∧ Below w.heap.size w w' := by
 have HB : Hid (BookAt w vk vp ve ks ps es ∧ BookAt w uk up ue ks ps es) := ⟨hB, hB'⟩
 obtain ⟨⟨ak, ck, rfl, -, -, -⟩, ⟨ap, cp, rfl, -, -, -⟩, ⟨ae, ce, rfl, -, -, -⟩⟩ := hB
 obtain ⟨⟨ak', ck', rfl, -, -, -⟩, ⟨ap', cp', rfl, -, -, -⟩, ⟨ae', ce', rfl, -, -, -⟩⟩ := hB'
 have HX0 : Hid (OwnAt w ((w.alloc (.cells #[.slice ak ks.length ck, .slice ap ps.length cp, .slice ae es.length ce] 30)).alloc (.cells #[.slice ak' ks.length ck', .slice ap' ps.length cp', .slice ae' es.length ce'] 30)) [[.slice ak ks.length ck, .slice ap ps.length cp, .slice ae es.length ce], [.slice ak' ks.length ck', .slice ap' ps.length cp', .slice ae' es.length ce']]) := ((OwnAt.start w).push rfl _ _).push (by simp) _ _
 go_enter Tryz.func19, Tryz.ntmps19
 go_wp2_with fail
 refine (eqBase_any _ _ _ _ ks ps _ (HB.out.1.k.keep HX0.out.below) (HB.out.1.p.keep HX0.out.below) (HB.out.2.k.keep HX0.out.below) (HB.out.2.p.keep HX0.out.below)).mono ?_
 rintro e w1 ⟨rfl, hb1⟩
 have HX1 : Hid (OwnAt w w1 _) := HX0.out.call hb1
 clear HX0 hb1
 have y0 : w1.cell? ⟨w.heap.size, 0, none⟩ = some (.slice ak ks.length ck) := (HX1.out.has 0 _ rfl 0 _ rfl).1
 have y1 : w1.cell? ⟨w.heap.size, 1, none⟩ = some (.slice ap ps.length cp) := (HX1.out.has 0 _ rfl 1 _ rfl).1
 have y2 : w1.cell? ⟨w.heap.size, 2, none⟩ = some (.slice ae es.length ce) := (HX1.out.has 0 _ rfl 2 _ rfl).1
 have z0 : w1.cell? ⟨w.heap.size + 1, 0, none⟩ = some (.slice ak' ks.length ck') := (HX1.out.has 1 _ rfl 0 _ rfl).1
 have z1 : w1.cell? ⟨w.heap.size + 1, 1, none⟩ = some (.slice ap' ps.length cp') := (HX1.out.has 1 _ rfl 1 _ rfl).1
 have z2 : w1.cell? ⟨w.heap.size + 1, 2, none⟩ = some (.slice ae' es.length ce') := (HX1.out.has 1 _ rfl 2 _ rfl).1
 go_wp2_with fail
 refine (eqEntries_any _ _ es _ (HB.out.1.e.keep HX1.out.below) (HB.out.2.e.keep HX1.out.below)).mono ?_
 rintro e w2 ⟨rfl, hb2⟩
 go_wp2
 go_ret
 exact ⟨rfl, below_step HX1.out.below hb2⟩
open Go.RowKit
set_option maxHeartbeats 1600000 in
theorem placeKind_any (v : Value) (l : List Tri) (s : ByteArray) (w : World) (hv : TrisAt w v l) :
  Calls Tryz.prog 180 #[v, .string s, .func (.func 129) #[] #[]] w fun e w' => e = .returned (.tuple #[.int .i64 (plc l s : Nat), .bool (hasB l s)]) ∧ Below w.heap.size w w' := by
 obtain ⟨a, cap, rfl, hlc, hcm, hc⟩ := hv
 unfold maxLen at hcm
 have HC : Hid (∀ i t, l[i]? = some t → ∃ b off, a = some ⟨b, off, none⟩ ∧ TriAt w b (off + i * 3) t) := hc
 clear hc
 go_enter Tryz.func180, Tryz.ntmps180
 go_wp2
 go_loopw [7, 8, 12] (fun _ _ i wr => ∃ k : Nat, k ≤ l.length ∧ i = .int .i64 k ∧ Below w.heap.size w wr ∧ Hid (∀ j, j < k → geB (at' l j).s s = false)) (fun _ _ i _ => l.length - (intOf i).toNat)
 case atStart => exact ⟨0, Nat.zero_le _, rfl, Below.refl _ _, fun j hj => absurd hj (Nat.not_lt_zero _)⟩
 case round =>
  obtain ⟨k, hk, rfl, hb, HA⟩ := hrel
  by_cases hlt : k < l.length
  ·obtain ⟨b, off, rfl, hc⟩ := HC.out k _ (at_get hlt)
   obtain ⟨d0, d1, d2⟩ := hc.keep hb (Nat.le_refl _)
   have hk0 : (0 : Int) ≤ (k : Int) := by omega
   have hk1 : (k : Int) < (l.length : Int) := by omega
   go_wp2_with fail
   refine (kindName_any (at' l k) _).mono ?_
   rintro e w1 ⟨rfl, hb1⟩
   have tn : TriAt w1 wr.heap.size 0 (at' l k) := TriAt.keep (w := wr.alloc (.cells #[.string (at' l k).s, .int .i64 (at' l k).x, .int .i64 (at' l k).y] 69)) ⟨by simp, by simp, by simp⟩ hb1 (Nat.le_refl _)
   have HBW : Hid (Below w.heap.size w w1) := below_step (hb.alloc hb.size _) hb1
   obtain ⟨n0, n1, n2⟩ := tn
   clear hb1 d0 d1 d2 hc
   cases hg : geB (at' l k).s s
   ·have hg' : Op.bytesLess (at' l k).s.toList s.toList = true := by unfold geB at hg; simpa using hg
    have HG : Hid (geB (at' l k).s s = false) := hg
    clear hg
    go_wp2
    exact ⟨⟨k + 1, by omega, by go_num, HBW.out, fun j hj => if e : j = k then by rw [e]; exact HG.out else HA.out j (by omega)⟩, by simp [intOf]; omega⟩
   ·have hg' : Op.bytesLess (at' l k).s.toList s.toList = false := by unfold geB at hg; simpa using hg
    have HG : Hid (geB (at' l k).s s = true) := hg
    have HP : Hid (plc l s = k) := plc_some hlt hg HA.out
    have HH : Hid (hasB l s = decide ((at' l k).s = s)) := hasB_at hlt hg HA.out
    clear hg
    have hq : ((at' l k).s.toList == s.toList) = decide ((at' l k).s = s) := by
     by_cases hx : (at' l k).s = s
     ·rw [str_eq hx]; simp [hx]
     ·rw [str_ne hx]; simp [hx]
    go_wp2_with fail
    refine (kindName_any (at' l k) _).mono ?_
    rintro e w2 ⟨rfl, hb2⟩
    go_wp2
    go_ret2
    exact ⟨by rw [HP.out, HH.out]; rfl, below_step HBW.out hb2⟩
  ·go_wp2
   go_ret2
   exact ⟨by rw [plc_none fun j hj => HA.out j (by omega), hasB_end fun j hj => HA.out j (by omega)]; rfl, hb⟩
set_option maxHeartbeats 1600000 in
theorem placePoint_any (v : Value) (l : List Tri) (s : ByteArray) (w : World) (hv : TrisAt w v l) :
  Calls Tryz.prog 183 #[v, .string s, .func (.func 132) #[] #[]] w fun e w' => e = .returned (.tuple #[.int .i64 (plc l s : Nat), .bool (hasB l s)]) ∧ Below w.heap.size w w' := by
 obtain ⟨a, cap, rfl, hlc, hcm, hc⟩ := hv
 unfold maxLen at hcm
 have HC : Hid (∀ i t, l[i]? = some t → ∃ b off, a = some ⟨b, off, none⟩ ∧ TriAt w b (off + i * 3) t) := hc
 clear hc
 go_enter Tryz.func183, Tryz.ntmps183
 go_wp2
 go_loopw [7, 8, 12] (fun _ _ i wr => ∃ k : Nat, k ≤ l.length ∧ i = .int .i64 k ∧ Below w.heap.size w wr ∧ Hid (∀ j, j < k → geB (at' l j).s s = false)) (fun _ _ i _ => l.length - (intOf i).toNat)
 case atStart => exact ⟨0, Nat.zero_le _, rfl, Below.refl _ _, fun j hj => absurd hj (Nat.not_lt_zero _)⟩
 case round =>
  obtain ⟨k, hk, rfl, hb, HA⟩ := hrel
  by_cases hlt : k < l.length
  ·obtain ⟨b, off, rfl, hc⟩ := HC.out k _ (at_get hlt)
   obtain ⟨d0, d1, d2⟩ := hc.keep hb (Nat.le_refl _)
   have hk0 : (0 : Int) ≤ (k : Int) := by omega
   have hk1 : (k : Int) < (l.length : Int) := by omega
   go_wp2_with fail
   refine (pointName_any (at' l k) _).mono ?_
   rintro e w1 ⟨rfl, hb1⟩
   have tn : TriAt w1 wr.heap.size 0 (at' l k) := TriAt.keep (w := wr.alloc (.cells #[.string (at' l k).s, .int .i64 (at' l k).x, .int .i64 (at' l k).y] 72)) ⟨by simp, by simp, by simp⟩ hb1 (Nat.le_refl _)
   have HBW : Hid (Below w.heap.size w w1) := below_step (hb.alloc hb.size _) hb1
   obtain ⟨n0, n1, n2⟩ := tn
   clear hb1 d0 d1 d2 hc
   cases hg : geB (at' l k).s s
   ·have hg' : Op.bytesLess (at' l k).s.toList s.toList = true := by unfold geB at hg; simpa using hg
    have HG : Hid (geB (at' l k).s s = false) := hg
    clear hg
    go_wp2
    exact ⟨⟨k + 1, by omega, by go_num, HBW.out, fun j hj => if e : j = k then by rw [e]; exact HG.out else HA.out j (by omega)⟩, by simp [intOf]; omega⟩
   ·have hg' : Op.bytesLess (at' l k).s.toList s.toList = false := by unfold geB at hg; simpa using hg
    have HG : Hid (geB (at' l k).s s = true) := hg
    have HP : Hid (plc l s = k) := plc_some hlt hg HA.out
    have HH : Hid (hasB l s = decide ((at' l k).s = s)) := hasB_at hlt hg HA.out
    clear hg
    have hq : ((at' l k).s.toList == s.toList) = decide ((at' l k).s = s) := by
     by_cases hx : (at' l k).s = s
     ·rw [str_eq hx]; simp [hx]
     ·rw [str_ne hx]; simp [hx]
    go_wp2_with fail
    refine (pointName_any (at' l k) _).mono ?_
    rintro e w2 ⟨rfl, hb2⟩
    go_wp2
    go_ret2
    exact ⟨by rw [HP.out, HH.out]; rfl, below_step HBW.out hb2⟩
  ·go_wp2
   go_ret2
   exact ⟨by rw [plc_none fun j hj => HA.out j (by omega), hasB_end fun j hj => HA.out j (by omega)]; rfl, hb⟩
set_option maxHeartbeats 800000 in
theorem kindRule_any (vk vp : Value) (l : List Tri) (s : ByteArray) (w : World) (hv : TrisAt w vk l) :
  Calls Tryz.prog 330 #[.agg #[], .agg #[vk, vp], .string s] w fun e w' => e = .returned (.bool (hasB l s)) ∧ Below w.heap.size w w' := by
 have HV : Hid (TrisAt w vk l) := hv
 obtain ⟨a, cap, rfl, -, -, -⟩ := hv
 go_enter Tryz.func330, Tryz.ntmps330
 go_wp2_with fail
 refine (placeKind_any _ l s _ (HV.out.keep (((Below.refl _ _).alloc (Nat.le_refl _) _).alloc (by simp) _))).mono ?_
 rintro e w1 ⟨rfl, hb1⟩
 go_wp2
 go_ret
 exact ⟨rfl, below_step (((Below.refl _ _).alloc (Nat.le_refl _) _).alloc (by simp) _) hb1⟩
theorem open_list : openS.toList = [111, 112, 101, 110] := by rw [ByteArray.toList_eq]; rfl
theorem closed_list : closedS.toList = [99, 108, 111, 115, 101, 100] := by rw [ByteArray.toList_eq]; rfl
set_option maxHeartbeats 800000 in
theorem stateRule_any (vk vp : Value) (s : ByteArray) (w : World) :
  Calls Tryz.prog 334 #[.agg #[], .agg #[vk, vp], .string s] w fun e w' => e = .returned (.bool (stateB s)) ∧ Below w.heap.size w w' := by
 by_cases h1 : s = openS
 ·have e : stateB s = true := by simp [stateB, h1]
  have g1 : (s.toList == [111, 112, 101, 110]) = true := open_list ▸ str_eq h1
  rw [e]; clear e h1
  go_enter Tryz.func334, Tryz.ntmps334
  go_wp2
  go_ret
  exact ⟨rfl, ((Below.refl _ _).alloc (Nat.le_refl _) _).alloc (by simp) _⟩
 ·have g1 : (s.toList == [111, 112, 101, 110]) = false := open_list ▸ str_ne h1
  by_cases h2 : s = closedS
  ·have e : stateB s = true := by simp [stateB, h2]
   have g2 : (s.toList == [99, 108, 111, 115, 101, 100]) = true := closed_list ▸ str_eq h2
   rw [e]; clear e h1 h2
   go_enter Tryz.func334, Tryz.ntmps334
   go_wp2
   go_ret
   exact ⟨rfl, ((Below.refl _ _).alloc (Nat.le_refl _) _).alloc (by simp) _⟩
  ·have e : stateB s = false := by simp [stateB, h1, h2]
   have g2 : (s.toList == [99, 108, 111, 115, 101, 100]) = false := closed_list ▸ str_ne h2
   rw [e]; clear e h1 h2
   go_enter Tryz.func334, Tryz.ntmps334
   go_wp2
   go_ret
   exact ⟨rfl, ((Below.refl _ _).alloc (Nat.le_refl _) _).alloc (by simp) _⟩
set_option maxHeartbeats 800000 in
theorem levelRule_any (vk vp : Value) (s : ByteArray) (w : World) (hs : s.size ≤ 1048576) :
  Calls Tryz.prog 332 #[.agg #[], .agg #[vk, vp], .string s] w fun e w' => e = .returned (.bool (levelB s)) ∧ Below w.heap.size w w' := by
 have HRD : Hid (∀ wx : World, Calls Tryz.prog 208 #[.string s] wx fun e w' => e = .returned (.tuple #[.int .i64 (bif decB s then (numV s : Int) else 0), .bool (decB s)]) ∧ Below wx.heap.size wx w') := fun wx => readDecimal_any s wx (by unfold maxLen; omega)
 cases hd : decB s
 ·have e : levelB s = false := by simp [levelB, hd]
  have HD : Hid (decB s = false) := hd
  rw [e]; clear e hd
  go_enter Tryz.func332, Tryz.ntmps332
  go_wp2_with fail
  refine (HRD.out _).mono ?_
  rw [HD.out]
  rintro e w1 ⟨rfl, hb1⟩
  go_wp2
  go_ret
  exact ⟨rfl, below_step (((Below.refl _ _).alloc (Nat.le_refl _) _).alloc (by simp) _) hb1⟩
 ·have e : levelB s = inB (numV s) 1 6 := by simp [levelB, hd]
  have HD : Hid (decB s = true) := hd
  rw [e]; clear e hd
  generalize numV s = n at HRD
  by_cases h1 : 1 ≤ (n : Int)
  ·by_cases h2 : (n : Int) ≤ 6
   ·have e : inB n 1 6 = true := by simp [inB, h1, h2]
    rw [e]; clear e
    go_enter Tryz.func332, Tryz.ntmps332
    go_wp2_with fail
    refine (HRD.out _).mono ?_
    rw [HD.out, cond_true]
    rintro e w1 ⟨rfl, hb1⟩
    go_wp2
    go_ret
    exact ⟨rfl, below_step (((Below.refl _ _).alloc (Nat.le_refl _) _).alloc (by simp) _) hb1⟩
   ·have e : inB n 1 6 = false := by simp [inB]; omega
    rw [e]; clear e
    go_enter Tryz.func332, Tryz.ntmps332
    go_wp2_with fail
    refine (HRD.out _).mono ?_
    rw [HD.out, cond_true]
    rintro e w1 ⟨rfl, hb1⟩
    go_wp2
    go_ret
    exact ⟨ret_bool (decide_eq_false (by omega)), below_step (((Below.refl _ _).alloc (Nat.le_refl _) _).alloc (by simp) _) hb1⟩
  ·have e : inB n 1 6 = false := by simp [inB]; omega
   rw [e]; clear e
   go_enter Tryz.func332, Tryz.ntmps332
   go_wp2_with fail
   refine (HRD.out _).mono ?_
   rw [HD.out, cond_true]
   rintro e w1 ⟨rfl, hb1⟩
   go_wp2
   go_ret
   exact ⟨rfl, below_step (((Below.refl _ _).alloc (Nat.le_refl _) _).alloc (by simp) _) hb1⟩
end Go.Proofs.YtcmgddnckohdaaaGreatDoor
