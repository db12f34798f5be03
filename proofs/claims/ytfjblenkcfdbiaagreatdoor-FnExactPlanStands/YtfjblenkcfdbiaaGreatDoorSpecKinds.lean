
/-
  The specification's PlanBaseOk; the comparison of two bases.
-/
import Derived.Test.YtfjblenkcfdbiaaGreatDoorBase
import Derived.Test.YtfjblenkcfdbiaaGreatDoorLater
namespace Go.Proofs.YtfjblenkcfdbiaaGreatDoor
open Go.RowKit
attribute [local go_sem] Later.cell Later.frozen

set_option maxHeartbeats 800000 in
theorem eqBase_any (vk vp uk up : Value) (ks ps : List Tri) (w : World) (hk : TrisAt w vk ks) (hp : TrisAt w vp ps) (hk' : TrisAt w uk ks) (hp' : TrisAt w up ps) :
    Calls Tryz.prog 28 #[.agg #[vk, vp], .agg #[uk, up]] w fun e w' => e = .returned (.bool true) ∧ Below w.heap.size w w' := by
  have HK := hk; have HP := hp; have HK' := hk'; have HP' := hp'
  obtain ⟨ak, ck, rfl, -, -, -⟩ := hk
  obtain ⟨ap, cp, rfl, -, -, -⟩ := hp
  obtain ⟨ak', ck', rfl, -, -, -⟩ := hk'
  obtain ⟨ap', cp', rfl, -, -, -⟩ := hp'
  have H1 : Hid (TrisAt w (.slice ak ks.length ck) ks ∧ TrisAt w (.slice ak' ks.length ck') ks) := ⟨HK, HK'⟩
  have H2 : Hid (TrisAt w (.slice ap ps.length cp) ps ∧ TrisAt w (.slice ap' ps.length cp') ps) := ⟨HP, HP'⟩
  clear HK HP HK' HP'
  go_enter Tryz.func28, Tryz.ntmps28
  go_wp2_with fail
  refine (eqKinds_any _ _ ks _ ((H1.out.1.alloc _).alloc _) ((H1.out.2.alloc _).alloc _)).mono ?_
  rintro e w1 ⟨rfl, hb1⟩
  have c01 : w1.cell? ⟨w.heap.size, 1, none⟩ = some (.slice ap ps.length cp) := cell_keep hb1 (Nat.le_refl _) (by simp [go_sem])
  have c11 : w1.cell? ⟨w.heap.size + 1, 1, none⟩ = some (.slice ap' ps.length cp') := cell_keep hb1 (Nat.le_refl _) (by simp [go_sem])
  have hbw : Below w.heap.size w w1 := below_step (((Below.refl _ _).alloc (Nat.le_refl _) _).alloc (by simp) _) hb1
  go_wp2_with fail
  refine (eqPoints_any _ _ ps _ (H2.out.1.keep hbw) (H2.out.2.keep hbw)).mono ?_
  rintro e w2 ⟨rfl, hb2⟩
  go_wp2
  go_ret
  exact ⟨rfl, below_step hbw hb2⟩

/-- What the loops of the specification hold: the box with the base is there, and all that was there is. -/
structure Boxed (w wr : World) (vk vp : Value) : Prop where
  below : Below w.heap.size w wr
  big : w.heap.size < wr.heap.size
  c0 : wr.cell? ⟨w.heap.size, 0, none⟩ = some vk
  c1 : wr.cell? ⟨w.heap.size, 1, none⟩ = some vp
theorem Boxed.start (w : World) (vk vp : Value) (T : TypeId) : Boxed w (w.alloc (.cells #[vk, vp] T)) vk vp :=
  ⟨(Below.refl _ _).alloc (Nat.le_refl _) _, by simp, by simp [go_sem], by simp [go_sem]⟩
theorem Boxed.call {w wr w' : World} {vk vp : Value} (h : Boxed w wr vk vp) (hb : Below wr.heap.size wr w') : Boxed w w' vk vp :=
  ⟨below_step h.below hb, Nat.lt_of_lt_of_le h.big hb.size, cell_keep hb (Nat.le_refl _) h.c0, cell_keep hb (Nat.le_refl _) h.c1⟩
theorem Boxed.drew {w wr : World} {vk vp : Value} (h : Boxed w wr vk vp) : Boxed w wr.drew vk vp :=
  ⟨h.below.drew, h.big, by simpa using h.c0, by simpa using h.c1⟩
theorem Boxed.drewN {w wr : World} {vk vp : Value} (h : Boxed w wr vk vp) (n : Nat) : Boxed w (wr.drewN n) vk vp :=
  h.call (below_drewN (Below.refl _ _) n)

theorem ok_zero {l : List Tri} {P : Tri → Bool} (h : P (at' l 0) = true) : (P (at' l 0) && ascB l 0) = true := by rw [h, asc_zero]; rfl

/-- One round of the specification's first loop, up to its place in the loop's own terms. -/
def kRound (l : List Tri) (k : Nat) : Bool := kindOkB (at' l k) && ascB l k
def pRound (l : List Tri) (k : Nat) : Bool := (pointOkB (at' l k) && ascB l k) && allB k fun i => !sameB (at' l i) (at' l k)

set_option maxRecDepth 100000 in
set_option maxHeartbeats 3200000 in
theorem specBase_any (vk vp : Value) (ks ps : List Tri) (w : World) (hk : TrisAt w vk ks) (hp : TrisAt w vp ps) (nk : Names ks) (np : Names ps) :
    Calls Tryz.prog 44 #[.agg #[vk, vp]] w fun e w' => e = .returned (.bool (kindsB ks && pointsB ps)) ∧ Below w.heap.size w w' := by
  have HK := hk; have HP := hp
  obtain ⟨ak, ck, rfl, lk, mk, ek⟩ := hk
  obtain ⟨ap, cp, rfl, lp, mp, ep⟩ := hp
  unfold maxLen at mk mp
  have HK1 : Hid (TrisAt w (.slice ak ks.length ck) ks) := HK
  have HP1 : Hid (TrisAt w (.slice ap ps.length cp) ps) := HP
  have NK : Hid (Names ks) := nk
  have NP : Hid (Names ps) := np
  have EK : Hid (∀ i t, ks[i]? = some t → ∃ b off, ak = some ⟨b, off, none⟩ ∧ TriAt w b (off + i * 3) t) := ek
  have EP : Hid (∀ i t, ps[i]? = some t → ∃ b off, ap = some ⟨b, off, none⟩ ∧ TriAt w b (off + i * 3) t) := ep
  clear HK HP nk np ek ep
  by_cases h1 : (6 : Int) < (ks.length : Int)
  · have e : (kindsB ks && pointsB ps) = false := by
      have : ¬ ks.length ≤ 6 := by omega
      rw [kindsB_eq]; simp [this]
    rw [e]; clear e
    go_enter Tryz.func44, Tryz.ntmps44
    go_wp2
    go_ret
    exact ⟨rfl, (Below.refl _ _).alloc (Nat.le_refl _) _⟩
  by_cases h2 : (16 : Int) < (ps.length : Int)
  · have e : (kindsB ks && pointsB ps) = false := by
      have : ¬ ps.length ≤ 16 := by omega
      rw [pointsB_eq]; simp [this]
    rw [e]; clear e
    go_enter Tryz.func44, Tryz.ntmps44
    go_wp2
    go_ret
    exact ⟨rfl, (Below.refl _ _).alloc (Nat.le_refl _) _⟩
  have hbk : kindsB ks = allB ks.length (kRound ks) := by rw [kindsB_eq]; have : ks.length ≤ 6 := by omega
                                                          simp only [this, decide_true, Bool.true_and]; rfl
  have HBK : Hid (kindsB ks = allB ks.length (kRound ks)) := hbk
  have hbp : pointsB ps = allB ps.length (pRound ps) := by rw [pointsB_eq]; have : ps.length ≤ 16 := by omega
                                                           simp only [this, decide_true, Bool.true_and]; rfl
  have HBP : Hid (pointsB ps = allB ps.length (pRound ps)) := hbp
  clear hbk hbp
  go_enter Tryz.func44, Tryz.ntmps44
  go_wp2
  go_loopw [3] (fun i wr => ∃ k : Nat, k ≤ ks.length ∧ i = .int .i64 k ∧ Boxed w wr (.slice ak ks.length ck) (.slice ap ps.length cp) ∧ Hid (∀ j, j < k → kRound ks j = true)) (fun i _ => ks.length - (intOf i).toNat)
  case atStart => exact ⟨0, Nat.zero_le _, rfl, Boxed.start _ _ _ _, fun j hj => absurd hj (Nat.not_lt_zero _)⟩
  case round =>
    obtain ⟨k, hk, rfl, hx, HA⟩ := hrel
    have x0 := hx.c0
    have x1 := hx.c1
    have xz := hx.big
    have HX : Hid (Boxed w wr (.slice ak ks.length ck) (.slice ap ps.length cp)) := hx
    clear hx
    by_cases hlt : k < ks.length
    · obtain ⟨b, off, rfl, hc⟩ := EK.out k _ (at_get hlt)
      obtain ⟨d0, d1, d2⟩ := hc.keep HX.out.below (Nat.le_refl _)
      have hsk : (at' ks k).s.size ≤ maxLen := NK.out _ (List.mem_of_getElem? (at_get hlt))
      have BAD : Hid (kRound ks k = false → (kindsB ks && pointsB ps) = false) := fun h => by rw [HBK.out, allB_false hlt h]; rfl
      have KR : Hid (kRound ks k = (kindOkB (at' ks k) && ascB ks k)) := rfl
      have hk0 : (0 : Int) ≤ (k : Int) := by omega
      have hk1 : (k : Int) < (ks.length : Int) := by omega
      have hbl : b < wr.heap.size := lt_of_cell d0
      have go1 : ∀ (v : Bool), Hid (kindOkB (at' ks k) = v) → ∀ x : Later wr, Calls Tryz.prog 82 #[.agg #[.string (at' ks k).s, .int .i64 (at' ks k).x, .int .i64 (at' ks k).y]] x.val fun e w'' => e = .returned (.bool v) ∧ ∃ y : Later wr, w'' = y.val :=
        fun v hv x => Calls.later (hv.out ▸ l1KindOk_any (at' ks k) x.val hsk)
      have GO : Hid (∀ (v : Bool), Hid (kindOkB (at' ks k) = v) → ∀ x : Later wr, Calls Tryz.prog 82 #[.agg #[.string (at' ks k).s, .int .i64 (at' ks k).x, .int .i64 (at' ks k).y]] x.val fun e w'' => e = .returned (.bool v) ∧ ∃ y : Later wr, w'' = y.val) := go1
      clear go1
      have hne := Later.some wr
      cases ho : kindOkB (at' ks k)
      · have HO : Hid (kindOkB (at' ks k) = false) := ho
        clear ho
        go_wp2
        refine wp_region_later (by kernel_rfl) (by kernel_rfl) ?_
        repeat (go_big_quiet_step (exact GO.out _ HO _))
        refine wpQuiet_nil ?_
        rintro _ ⟨x, rfl⟩
        go_wp2
        go_ret
        exact ⟨ret_bool (BAD.out (by rw [KR.out, HO.out]; rfl)).symm, below_step HX.out.below x.below⟩
      · have HO : Hid (kindOkB (at' ks k) = true) := ho
        clear ho
        by_cases hkz : (0 : Int) < (k : Int)
        · have hg : 0 < k := by omega
          obtain ⟨b', off', hbo, hcm'⟩ := EK.out (k - 1) _ (at_get (by omega))
          cases hbo
          obtain ⟨m0, -, -⟩ := hcm'.keep HX.out.below (Nat.le_refl _)
          have AS : Hid (ascB ks k = !geB (at' ks (k - 1)).s (at' ks k).s) := by
            show ascB ks k = _
            obtain ⟨m, rfl⟩ : ∃ m, k = m + 1 := ⟨k - 1, by omega⟩
            exact asc_succ ks m
          clear hcm' hc
          have hi0 : (0 : Int) ≤ (k : Int) - 1 := by omega
          have hi1 : (k : Int) - 1 < (ks.length : Int) := by omega
          go_wp2
          refine wp_region_later (by kernel_rfl) (by kernel_rfl) ?_
          repeat (go_big_quiet_step (exact GO.out _ HO _))
          refine wpQuiet_nil ?_
          rintro _ ⟨x, rfl⟩
          go_wp2
          · rename_i h
            go_ret
            exact ⟨ret_bool (BAD.out (by rw [KR.out, HO.out, AS.out]; unfold geB; rw [h]; rfl)).symm, below_step HX.out.below x.below⟩
          · rename_i h
            exact ⟨⟨k + 1, by omega, by go_num, HX.out.call x.below, fun j hj => if e : j = k then by rw [e, KR.out, HO.out, AS.out]; unfold geB; rw [h]; rfl else HA.out j (by omega)⟩, by simp [intOf]; omega⟩
        · have hg : decide (0 < k) = false := by simp; omega
          go_wp2
          refine wp_region_later (by kernel_rfl) (by kernel_rfl) ?_
          repeat (go_big_quiet_step (exact GO.out _ HO _))
          refine wpQuiet_nil ?_
          rintro _ ⟨x, rfl⟩
          go_wp2
          exact ⟨⟨k + 1, by omega, by go_num, HX.out.call x.below, fun j hj => by
            obtain rfl : j = k := by omega
            rw [KR.out, HO.out]; obtain rfl : j = 0 := by omega
            rw [asc_zero]; rfl⟩, by simp [intOf]; omega⟩
    · have HKT : Hid (kindsB ks = true) := HBK.out.trans (allB_true fun j hj => HA.out j (by omega))
      go_wp2
      clear HA EK NK HBK
      go_loopw [4, 5] (fun i _ wr => ∃ k : Nat, k ≤ ps.length ∧ i = .int .i64 k ∧ Boxed w wr (.slice ak ks.length ck) (.slice ap ps.length cp) ∧ Hid (∀ j, j < k → pRound ps j = true)) (fun i _ _ => ps.length - (intOf i).toNat)
      case atStart => exact ⟨0, Nat.zero_le _, rfl, HX.out, fun j hj => absurd hj (Nat.not_lt_zero _)⟩
      case round =>
        clear HX x0 x1 xz hlt hk
        obtain ⟨k, hk, rfl, hx, HA⟩ := hrel
        have x0 := hx.c0
        have x1 := hx.c1
        have xz := hx.big
        have HX : Hid (Boxed w wr (.slice ak ks.length ck) (.slice ap ps.length cp)) := hx
        clear hx
        by_cases hlt : k < ps.length
        · obtain ⟨b, off, rfl, hc⟩ := EP.out k _ (at_get hlt)
          obtain ⟨d0, d1, d2⟩ := hc.keep HX.out.below (Nat.le_refl _)
          have hsk : (at' ps k).s.size ≤ maxLen := NP.out _ (List.mem_of_getElem? (at_get hlt))
          have BAD : Hid (pRound ps k = false → (kindsB ks && pointsB ps) = false) := fun h => by rw [HKT.out, HBP.out, allB_false hlt h]; rfl
          have PR : Hid (pRound ps k = ((pointOkB (at' ps k) && ascB ps k) && allB k fun i => !sameB (at' ps i) (at' ps k))) := rfl
          have hk0 : (0 : Int) ≤ (k : Int) := by omega
          have hk1 : (k : Int) < (ps.length : Int) := by omega
          have hbl : b < wr.heap.size := lt_of_cell d0
          have GO : Hid (∀ (v : Bool), Hid (pointOkB (at' ps k) = v) → ∀ x : Later wr, Calls Tryz.prog 83 #[.agg #[.string (at' ps k).s, .int .i64 (at' ps k).x, .int .i64 (at' ps k).y]] x.val fun e w'' => e = .returned (.bool v) ∧ ∃ y : Later wr, w'' = y.val) :=
            fun v hv x => Calls.later (hv.out ▸ l1PointOk_any (at' ps k) x.val hsk)
          have hne := Later.some wr
          have HCK : Hid (TriAt w b (off + k * 3) (at' ps k)) := hc
          cases ho : pointOkB (at' ps k)
          · have HO : Hid (pointOkB (at' ps k) = false) := ho
            clear ho
            go_wp2
            refine wp_region_later (by kernel_rfl) (by kernel_rfl) ?_
            repeat (go_big_quiet_step (exact GO.out _ HO _))
            refine wpQuiet_nil ?_
            rintro _ ⟨x, rfl⟩
            go_wp2
            go_ret
            exact ⟨ret_bool (BAD.out (by rw [PR.out, HO.out]; rfl)).symm, below_step HX.out.below x.below⟩
          · have HO : Hid (pointOkB (at' ps k) = true) := ho
            clear ho
            by_cases hkz : (0 : Int) < (k : Int)
            · have hg : 0 < k := by omega
              obtain ⟨b', off', hbo, hcm'⟩ := EP.out (k - 1) _ (at_get (by omega))
              cases hbo
              obtain ⟨m0, -, -⟩ := hcm'.keep HX.out.below (Nat.le_refl _)
              have AS : Hid (ascB ps k = !geB (at' ps (k - 1)).s (at' ps k).s) := by
                show ascB ps k = _
                obtain ⟨m, rfl⟩ : ∃ m, k = m + 1 := ⟨k - 1, by omega⟩
                exact asc_succ ps m
              clear hcm' hc
              have hi0 : (0 : Int) ≤ (k : Int) - 1 := by omega
              have hi1 : (k : Int) - 1 < (ps.length : Int) := by omega
              go_wp2
              refine wp_region_later (by kernel_rfl) (by kernel_rfl) ?_
              repeat (go_big_quiet_step (exact GO.out _ HO _))
              refine wpQuiet_nil ?_
              rintro _ ⟨x, rfl⟩
              go_wp2
              · rename_i h
                go_ret
                exact ⟨ret_bool (BAD.out (by rw [PR.out, HO.out, AS.out]; unfold geB; rw [h]; rfl)).symm, below_step HX.out.below x.below⟩
              · rename_i h
                have HAS : Hid (ascB ps k = true) := by
                  show ascB ps k = true
                  rw [AS.out]; unfold geB; rw [h]; rfl
                clear m0
                have hy0 : Boxed w x.val (.slice ak ks.length ck) (.slice (some ⟨b, off, none⟩) ps.length cp) := HX.out.call x.below
                have HY0 : Hid (Boxed w x.val (.slice ak ks.length ck) (.slice (some ⟨b, off, none⟩) ps.length cp)) := hy0
                clear hy0 GO HX x0 x1 xz d0 d1 d2 hbl hne
                go_loopw [5] (fun i wr => ∃ j : Nat, j ≤ k ∧ i = .int .i64 j ∧ Boxed w wr (.slice ak ks.length ck) (.slice (some ⟨b, off, none⟩) ps.length cp) ∧ Hid (∀ q, q < j → (!sameB (at' ps q) (at' ps k)) = true)) (fun i _ => k - (intOf i).toNat)
                case atStart => exact ⟨0, Nat.zero_le _, rfl, HY0.out, fun j hj => absurd hj (Nat.not_lt_zero _)⟩
                case round =>
                  clear HY0
                  obtain ⟨j, hj, rfl, hy, HB⟩ := hrel
                  have y0 := hy.c0
                  have y1 := hy.c1
                  have yz := hy.big
                  have HY : Hid (Boxed w wr (.slice ak ks.length ck) (.slice (some ⟨b, off, none⟩) ps.length cp)) := hy
                  clear hy
                  by_cases hjk : j < k
                  · obtain ⟨b', off', hbo, hcj⟩ := EP.out j _ (at_get (by omega))
                    cases hbo
                    obtain ⟨-, e1, e2⟩ := hcj.keep HY.out.below (Nat.le_refl _)
                    obtain ⟨-, f1, f2⟩ := HCK.out.keep HY.out.below (Nat.le_refl _)
                    have hj0 : (0 : Int) ≤ (j : Int) := by omega
                    have hj1 : (j : Int) < (ps.length : Int) := by omega
                    have SM : Hid (sameB (at' ps j) (at' ps k) = (decide ((at' ps j).x = (at' ps k).x) && decide ((at' ps j).y = (at' ps k).y))) := rfl
                    have BADI : Hid ((!sameB (at' ps j) (at' ps k)) = false → (kindsB ks && pointsB ps) = false) := fun h => BAD.out (by rw [PR.out, allB_false hjk h, Bool.and_false])
                    clear hcj
                    by_cases hxx : (at' ps j).x = (at' ps k).x
                    · have hxb : ((at' ps j).x == (at' ps k).x) = true := by simp [hxx]
                      have HXX : Hid ((at' ps j).x = (at' ps k).x) := hxx
                      clear hxx
                      by_cases hyy : (at' ps j).y = (at' ps k).y
                      · have hyb : ((at' ps j).y == (at' ps k).y) = true := by simp [hyy]
                        have HYY : Hid ((at' ps j).y = (at' ps k).y) := hyy
                        clear hyy
                        go_wp2
                        refine wp_region_quiet_lit (by kernel_rfl) (by kernel_rfl) ?_
                        repeat (go_big_quiet_step (fail))
                        refine wpQuiet_nil ?_
                        rintro _ ⟨nq, rfl⟩
                        go_wp2
                        go_ret
                        exact ⟨ret_bool (BADI.out (by rw [SM.out, HXX.out, HYY.out]; simp)).symm, below_drewN HY.out.below _⟩
                      · have hyb : ((at' ps j).y == (at' ps k).y) = false := by simp [hyy]
                        have HYY : Hid (¬ (at' ps j).y = (at' ps k).y) := hyy
                        clear hyy
                        go_wp2
                        refine wp_region_quiet_lit (by kernel_rfl) (by kernel_rfl) ?_
                        repeat (go_big_quiet_step (fail))
                        refine wpQuiet_nil ?_
                        rintro _ ⟨nq, rfl⟩
                        go_wp2
                        exact ⟨⟨j + 1, by omega, by go_num, HY.out.drewN _, fun q hq => if e : q = j then by rw [e, SM.out]; simp [HYY.out] else HB.out q (by omega)⟩, by simp [intOf]; omega⟩
                    · have hxb : ((at' ps j).x == (at' ps k).x) = false := by simp [hxx]
                      have HXX : Hid (¬ (at' ps j).x = (at' ps k).x) := hxx
                      clear hxx
                      go_wp2
                      refine wp_region_quiet_lit (by kernel_rfl) (by kernel_rfl) ?_
                      repeat (go_big_quiet_step (fail))
                      refine wpQuiet_nil ?_
                      rintro _ ⟨nq, rfl⟩
                      go_wp2
                      exact ⟨⟨j + 1, by omega, by go_num, HY.out.drewN _, fun q hq => if e : q = j then by rw [e, SM.out]; simp [HXX.out] else HB.out q (by omega)⟩, by simp [intOf]; omega⟩
                  · have HPT : Hid (pRound ps k = true) := by
                      show pRound ps k = true
                      rw [PR.out, HO.out, HAS.out, allB_true fun q hq => HB.out q (by omega)]; rfl
                    go_wp2
                    exact ⟨⟨k + 1, by omega, by go_num, HY.out, fun q hq => if e : q = k then by rw [e]; exact HPT.out else HA.out q (by omega)⟩, by simp [intOf]; omega⟩
            · have hg : decide (0 < k) = false := by simp; omega
              go_wp2
              refine wp_region_later (by kernel_rfl) (by kernel_rfl) ?_
              repeat (go_big_quiet_step (exact GO.out _ HO _))
              refine wpQuiet_nil ?_
              rintro _ ⟨x, rfl⟩
              go_wp2
              have HAS : Hid (ascB ps k = true) := by
                show ascB ps k = true
                obtain rfl : k = 0 := by omega
                exact asc_zero ps
              have hy0 : Boxed w x.val (.slice ak ks.length ck) (.slice (some ⟨b, off, none⟩) ps.length cp) := HX.out.call x.below
              have HY0 : Hid (Boxed w x.val (.slice ak ks.length ck) (.slice (some ⟨b, off, none⟩) ps.length cp)) := hy0
              clear hy0 GO HX x0 x1 xz d0 d1 d2 hbl hne
              go_loopw [5] (fun i wr => ∃ j : Nat, j ≤ k ∧ i = .int .i64 j ∧ Boxed w wr (.slice ak ks.length ck) (.slice (some ⟨b, off, none⟩) ps.length cp) ∧ Hid (∀ q, q < j → (!sameB (at' ps q) (at' ps k)) = true)) (fun i _ => k - (intOf i).toNat)
              case atStart => exact ⟨0, Nat.zero_le _, rfl, HY0.out, fun j hj => absurd hj (Nat.not_lt_zero _)⟩
              case round =>
                clear HY0
                obtain ⟨j, hj, rfl, hy, HB⟩ := hrel
                have y0 := hy.c0
                have y1 := hy.c1
                have yz := hy.big
                have HY : Hid (Boxed w wr (.slice ak ks.length ck) (.slice (some ⟨b, off, none⟩) ps.length cp)) := hy
                clear hy
                by_cases hjk : j < k
                · exact absurd hjk (by omega)
                · have HPT : Hid (pRound ps k = true) := by
                    show pRound ps k = true
                    rw [PR.out, HO.out, HAS.out, allB_true fun q hq => HB.out q (by omega)]; rfl
                  go_wp2
                  exact ⟨⟨k + 1, by omega, by go_num, HY.out, fun q hq => if e : q = k then by rw [e]; exact HPT.out else HA.out q (by omega)⟩, by simp [intOf]; omega⟩
        · go_wp2
          go_ret
          exact ⟨ret_bool (by rw [HKT.out, HBP.out, allB_true fun j hj => HA.out j (by omega)]; rfl), HX.out.below⟩
end Go.Proofs.YtfjblenkcfdbiaaGreatDoor
