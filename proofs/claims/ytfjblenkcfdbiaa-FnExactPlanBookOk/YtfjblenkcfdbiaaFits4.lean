
/-
  impl: a change that is ok.
-/
import Derived.Test.YtfjblenkcfdbiaaFits3
namespace Go.Proofs.Ytfjblenkcfdbiaa
open Go.RowKit
attribute [local go_sem] Later.cell Later.frozen

set_option maxHeartbeats 1600000 in
theorem changeFits_any (vk vp : Value) (ks ps : List Tri) (c : Chg) (w : World) (hk : TrisAt w vk ks) (hp : TrisAt w vp ps) (hf : c.f.size ≤ 1048576) (hs : c.v.size ≤ 1048576) :
    Calls Try.prog 50 #[.agg #[vk, vp], .agg #[.string c.f, .int .i64 c.what, .int .i64 c.num, .string c.v]] w fun e w' => e = .returned (.bool (fitB ks ps c)) ∧ Below w.heap.size w w' := by
  have HK := hk; have HP := hp
  obtain ⟨ak, ck, rfl, -, -, -⟩ := hk
  obtain ⟨ap, cp, rfl, -, -, -⟩ := hp
  have HK1 : Hid (TrisAt w (.slice ak ks.length ck) ks) := HK
  have HP1 : Hid (TrisAt w (.slice ap ps.length cp) ps) := HP
  clear HK HP
  obtain ⟨f, what, num, v⟩ := c
  dsimp only at *
  have HE : Hid (fitB ks ps ⟨f, what, num, v⟩ = (nameB f && (inB num 1 1000000 && valB2 ks ps what v))) := rfl
  generalize fitB ks ps ⟨f, what, num, v⟩ = res at HE ⊢
  go_enter Try.func50, Try.ntmps50
  go_wp2_with fail
  refine (nameOk_any f _ (by unfold maxLen; omega)).mono ?_
  rintro e w1 ⟨rfl, hb1⟩
  have k0 : w1.cell? ⟨w.heap.size, 0, none⟩ = some (.slice ak ks.length ck) := cell_keep hb1 (Nat.le_refl _) (by simp [go_sem])
  have k1 : w1.cell? ⟨w.heap.size, 1, none⟩ = some (.slice ap ps.length cp) := cell_keep hb1 (Nat.le_refl _) (by simp [go_sem])
  have c0 : w1.cell? ⟨w.heap.size + 1, 0, none⟩ = some (.string f) := cell_keep hb1 (Nat.le_refl _) (by simp [go_sem])
  have c1 : w1.cell? ⟨w.heap.size + 1, 1, none⟩ = some (.int .i64 what) := cell_keep hb1 (Nat.le_refl _) (by simp [go_sem])
  have c2 : w1.cell? ⟨w.heap.size + 1, 2, none⟩ = some (.int .i64 num) := cell_keep hb1 (Nat.le_refl _) (by simp [go_sem])
  have c3 : w1.cell? ⟨w.heap.size + 1, 3, none⟩ = some (.string v) := cell_keep hb1 (Nat.le_refl _) (by simp [go_sem])
  have HB1 : Hid (Below w.heap.size w w1) := below_step (((Below.refl _ _).alloc (Nat.le_refl _) _).alloc (by simp) _) hb1
  clear hb1
  generalize nameB f = b1 at *
  cases b1
  · go_wp2
    go_ret
    exact ⟨ret_bool (by rw [HE.out]; rfl), HB1.out⟩
  · go_wp2_with fail
    refine (numberOk_any _ _).mono ?_
    rintro e w2 ⟨rfl, hw2⟩
    subst hw2
    generalize inB num 1 1000000 = b2 at *
    cases b2
    · go_wp2
      go_ret
      exact ⟨ret_bool (by rw [HE.out]; rfl), HB1.out⟩
    · go_wp2_with fail
      refine (valueFits_any _ _ ks ps what v _ (HK1.out.keep HB1.out) (HP1.out.keep HB1.out) hs).mono ?_
      rintro e w3 ⟨rfl, hb3⟩
      go_wp2
      go_ret
      exact ⟨ret_bool (by rw [HE.out]; rfl), below_step HB1.out hb3⟩

set_option maxHeartbeats 1600000 in
theorem changeOk_any (vk vp : Value) (ks ps : List Tri) (c : Chg) (w : World) (hk : TrisAt w vk ks) (hp : TrisAt w vp ps) (nk : Names ks) (np : Names ps) (hf : c.f.size ≤ 1048576) (hs : c.v.size ≤ 1048576) :
    Calls Try.prog 16 #[.agg #[vk, vp], .agg #[.string c.f, .int .i64 c.what, .int .i64 c.num, .string c.v]] w fun e w' => e = .returned (.bool (baseB ks ps && fitB ks ps c)) ∧ Below w.heap.size w w' := by
  have HK := hk; have HP := hp
  obtain ⟨ak, ck, rfl, -, -, -⟩ := hk
  obtain ⟨ap, cp, rfl, -, -, -⟩ := hp
  have HK1 : Hid (TrisAt w (.slice ak ks.length ck) ks) := HK
  have HP1 : Hid (TrisAt w (.slice ap ps.length cp) ps) := HP
  have NK : Hid (Names ks) := nk
  have NP : Hid (Names ps) := np
  have HCF : Hid (∀ wx : World, Below w.heap.size w wx → Calls Try.prog 50 #[.agg #[.slice ak ks.length ck, .slice ap ps.length cp], .agg #[.string c.f, .int .i64 c.what, .int .i64 c.num, .string c.v]] wx fun e w' => e = .returned (.bool (fitB ks ps c)) ∧ Below wx.heap.size wx w') := fun wx hx => changeFits_any _ _ ks ps c wx (HK.keep hx) (HP.keep hx) hf hs
  clear HK HP nk np
  obtain ⟨f, what, num, v⟩ := c
  dsimp only at *
  have HE : Hid ((baseB ks ps && fitB ks ps ⟨f, what, num, v⟩) = (kindsB ks && pointsB ps && fitB ks ps ⟨f, what, num, v⟩)) := rfl
  generalize fitB ks ps ⟨f, what, num, v⟩ = b3 at *
  generalize (baseB ks ps && b3) = res at *
  go_enter Try.func16, Try.ntmps16
  go_wp2_with fail
  refine (baseOk_any _ _ ks ps _ ((HK1.out.alloc _).alloc _) ((HP1.out.alloc _).alloc _) NK.out NP.out).mono ?_
  rintro e w1 ⟨rfl, hb1⟩
  have k0 : w1.cell? ⟨w.heap.size, 0, none⟩ = some (.slice ak ks.length ck) := cell_keep hb1 (Nat.le_refl _) (by simp [go_sem])
  have k1 : w1.cell? ⟨w.heap.size, 1, none⟩ = some (.slice ap ps.length cp) := cell_keep hb1 (Nat.le_refl _) (by simp [go_sem])
  have c0 : w1.cell? ⟨w.heap.size + 1, 0, none⟩ = some (.string f) := cell_keep hb1 (Nat.le_refl _) (by simp [go_sem])
  have c1 : w1.cell? ⟨w.heap.size + 1, 1, none⟩ = some (.int .i64 what) := cell_keep hb1 (Nat.le_refl _) (by simp [go_sem])
  have c2 : w1.cell? ⟨w.heap.size + 1, 2, none⟩ = some (.int .i64 num) := cell_keep hb1 (Nat.le_refl _) (by simp [go_sem])
  have c3 : w1.cell? ⟨w.heap.size + 1, 3, none⟩ = some (.string v) := cell_keep hb1 (Nat.le_refl _) (by simp [go_sem])
  have HB1 : Hid (Below w.heap.size w w1) := below_step (((Below.refl _ _).alloc (Nat.le_refl _) _).alloc (by simp) _) hb1
  clear hb1
  generalize (kindsB ks && pointsB ps) = b1 at *
  cases b1
  · go_wp2
    go_ret
    exact ⟨ret_bool (by rw [HE.out]; rfl), HB1.out⟩
  · go_wp2_with fail
    refine (HCF.out _ HB1.out).mono ?_
    rintro e w3 ⟨rfl, hb3⟩
    go_wp2
    go_ret
    exact ⟨ret_bool (by rw [HE.out]; rfl), below_step HB1.out hb3⟩
end Go.Proofs.Ytfjblenkcfdbiaa
