
/-
  The law FnExactPlanBaseOk answers true at every base that lies in memory, and turns nothing that was there.
-/
import Derived.Test.YtfjblenkcfdbiaaSpecKinds
namespace Go.Proofs.Ytfjblenkcfdbiaa
open Go.RowKit

set_option maxHeartbeats 3200000 in
theorem lawBaseOk_walk (vk vp : Value) (ks ps : List Tri) (w : World) (hk : TrisAt w vk ks) (hp : TrisAt w vp ps) (nk : Names ks) (np : Names ps) :
    Calls Try.prog 3 #[.agg #[vk, vp]] w fun e w' => e = .returned (.bool true) ∧ Below w.heap.size w w' := by
  have HK1 : Hid (TrisAt w vk ks) := hk
  have HP1 : Hid (TrisAt w vp ps) := hp
  have NK : Hid (Names ks) := nk
  have NP : Hid (Names ps) := np
  clear nk np
  obtain ⟨ak, ck, rfl, -, -, -⟩ := hk
  obtain ⟨ap, cp, rfl, -, -, -⟩ := hp
  by_cases hsz : ((szTris ks + szTris ps : Nat) : Int) ≤ 1048576
  · have HR : Hid (szR (szTris ks + szTris ps) 1048576 = 1048576 - ((szTris ks + szTris ps : Nat) : Int)) := szR_pos hsz
    have lk : ks.length ≤ 1048576 := by unfold szTris at hsz; omega
    have lp : ps.length ≤ 1048576 := by unfold szTris at hsz; omega
    have hge : 0 ≤ 1048576 - ((szTris ks + szTris ps : Nat) : Int) := by omega
    generalize 1048576 - ((szTris ks + szTris ps : Nat) : Int) = r at HR hge
    clear hsz
    go_enter Try.func3, Try.ntmps3
    go_wp2_with fail
    refine (szBase_any _ _ ks ps _ _ (HK1.out.alloc _) (HP1.out.alloc _) NK.out NP.out (by omega) (by omega)).mono ?_
    rw [HR.out]
    rintro e w1 ⟨rfl, hb1⟩
    have hx1 : Boxed w w1 (.slice ak ks.length ck) (.slice ap ps.length cp) := (Boxed.start w _ _ _).call hb1
    have a0 := hx1.c0
    have a1 := hx1.c1
    have HX1 : Hid (Boxed w w1 (.slice ak ks.length ck) (.slice ap ps.length cp)) := hx1
    clear hx1 hb1
    go_wp2_with fail
    refine (toBase_any _ _ ks ps _ (HK1.out.keep HX1.out.below) (HP1.out.keep HX1.out.below) lk lp).mono ?_
    rintro e w2 ⟨uk, up, rfl, tk, tp, hb2⟩
    go_wp2_with fail
    refine (specBase_any _ _ ks ps _ tk tp NK.out NP.out).mono ?_
    rintro e w3 ⟨rfl, hb3⟩
    have hx3 := (HX1.out.call hb2).call hb3
    have b0 := hx3.c0
    have b1 := hx3.c1
    have HX3 : Hid (Boxed w w3 (.slice ak ks.length ck) (.slice ap ps.length cp)) := hx3
    clear hx3 hb2 hb3 a0 a1 tk tp HX1
    go_wp2_with fail
    refine (toBase_any _ _ ks ps _ (HK1.out.keep HX3.out.below) (HP1.out.keep HX3.out.below) lk lp).mono ?_
    rintro e w4 ⟨uk, up, rfl, tk, tp, hb4⟩
    have hx4 := HX3.out.call hb4
    have HT4 : Hid (TrisAt w4 uk ks ∧ TrisAt w4 up ps) := ⟨tk, tp⟩
    have HX4 : Hid (Boxed w w4 (.slice ak ks.length ck) (.slice ap ps.length cp)) := hx4
    obtain ⟨xa, xc, hxe, -, -, -⟩ := tk
    obtain ⟨ya, yc, hye, -, -, -⟩ := tp
    subst hxe hye
    clear hx4 hb4 b0 b1 HX3
    go_wp2_with fail
    refine (baseOk_any _ _ ks ps _ (HT4.out.1.alloc _) (HT4.out.2.alloc _) NK.out NP.out).mono ?_
    rintro e w5 ⟨rfl, hb5⟩
    have hx5 := (HX4.out.call ((Below.refl _ _).alloc (Nat.le_refl _) (.cells #[.slice xa ks.length xc, .slice ya ps.length yc] 31))).call hb5
    have c0 := hx5.c0
    have c1 := hx5.c1
    have d0 : w5.cell? ⟨w4.heap.size, 0, none⟩ = some (.slice xa ks.length xc) := cell_keep hb5 (Nat.le_refl _) (by simp [go_sem])
    have d1 : w5.cell? ⟨w4.heap.size, 1, none⟩ = some (.slice ya ps.length yc) := cell_keep hb5 (Nat.le_refl _) (by simp [go_sem])
    have HT5 : Hid (TrisAt w5 (.slice xa ks.length xc) ks ∧ TrisAt w5 (.slice ya ps.length yc) ps) := ⟨(HT4.out.1.alloc _).keep hb5, (HT4.out.2.alloc _).keep hb5⟩
    have HX5 : Hid (Boxed w w5 (.slice ak ks.length ck) (.slice ap ps.length cp)) := hx5
    clear hx5 hb5 HX4 HT4
    generalize (kindsB ks && pointsB ps) = ok
    have hok : (ok != ok) = false := by simp
    go_wp2
    go_region_held3 (fun w' => w'.cell? ⟨w.heap.size, 0, none⟩ = some (.slice ak ks.length ck) ∧ w'.cell? ⟨w.heap.size, 1, none⟩ = some (.slice ap ps.length cp) ∧ w'.cell? ⟨w4.heap.size, 0, none⟩ = some (.slice xa ks.length xc) ∧ w'.cell? ⟨w4.heap.size, 1, none⟩ = some (.slice ya ps.length yc) ∧ Below w5.heap.size w5 w')
      (first | (refine ⟨by simp [*, go_sem], by simp [*, go_sem], by simp [*, go_sem], by simp [*, go_sem], ?_⟩; exact (Below.refl _ _).drew) | (obtain ⟨s0, s1, s2, s3, s6⟩ := ‹_ ∧ _ ∧ _ ∧ _ ∧ Below w5.heap.size w5 _›; exact ⟨cell_keep hb6 (Nat.le_refl _) s0, cell_keep hb6 (Nat.le_refl _) s1, cell_keep hb6 (Nat.le_refl _) s2, cell_keep hb6 (Nat.le_refl _) s3, below_step s6 hb6⟩))
      (first | (go_at_call 10; refine (toBase_any _ _ ks ps _ (HK1.out.keep (below_step HX5.out.below (by exact (‹_ ∧ _ ∧ _ ∧ _ ∧ Below w5.heap.size w5 _›).2.2.2.2))) (HP1.out.keep (below_step HX5.out.below (by exact (‹_ ∧ _ ∧ _ ∧ _ ∧ Below w5.heap.size w5 _›).2.2.2.2))) lk lp).mono ?_; rintro e w6 ⟨zk, zp, rfl, uk6, up6, hb6⟩) | (go_at_call 12; refine (eqBase_any _ _ _ _ ks ps _ (HT5.out.1.keep (by exact (‹_ ∧ _ ∧ _ ∧ _ ∧ Below w5.heap.size w5 _›).2.2.2.2)) (HT5.out.2.keep (by exact (‹_ ∧ _ ∧ _ ∧ _ ∧ Below w5.heap.size w5 _›).2.2.2.2)) uk6 up6).mono ?_; rintro e w6 ⟨rfl, hb6⟩))
    go_wp2
    obtain ⟨_, _, _, _, hS⟩ := ‹_ ∧ _ ∧ _ ∧ _ ∧ Below w5.heap.size w5 w6›
    go_ret
    exact ⟨rfl, below_step HX5.out.below hS⟩
  · have HR : Hid (szR (szTris ks + szTris ps) 1048576 = -1) := szR_neg hsz
    clear hsz
    go_enter Try.func3, Try.ntmps3
    go_wp2_with fail
    refine (szBase_any _ _ ks ps _ _ (HK1.out.alloc _) (HP1.out.alloc _) NK.out NP.out (by omega) (by omega)).mono ?_
    rw [HR.out]
    rintro e w1 ⟨rfl, hb1⟩
    go_wp2
    go_ret
    exact ⟨rfl, below_step ((Below.refl _ _).alloc (Nat.le_refl _) _) hb1⟩
end Go.Proofs.Ytfjblenkcfdbiaa
