/-
  Joined: Fits3, Fits4.
-/
import Derived.Test.YtfjblenkcfdbiaaGreatDoorFits2
import Derived.Test.YtfjblenkcfdbiaaGreatDoorBase

namespace Go.Proofs.YtfjblenkcfdbiaaGreatDoor
open Go.RowKit
attribute [local go_sem] Later.cell Later.frozen

def ruleV (what : Int) : Value :=
  if what = 1 then .iface 211 (.agg #[]) else if what = 2 then .iface 212 (.agg #[]) else if what = 3 then .iface 213 (.agg #[]) else if what = 4 then .iface 214 (.agg #[]) else if what = 5 then .iface 215 (.agg #[]) else .nilIface

theorem ret_v {a b : Value} (h : a = b) : Ending.returned a = .returned b := by rw [h]

set_option maxHeartbeats 800000 in
theorem ruleOf_any (what : Int) (w : World) :
    Calls Tryz.prog 124 #[.int .i64 what] w fun e w' => e = .returned (ruleV what) ∧ w' = w := by
  have HR : Hid (ruleV what = ruleV what) := rfl
  by_cases h1 : what = 1
  · subst h1
    go_enter Tryz.func124, Tryz.ntmps124
    go_wp2
    go_ret
    exact ⟨rfl, rfl⟩
  by_cases h2 : what = 2
  · subst h2
    go_enter Tryz.func124, Tryz.ntmps124
    go_wp2
    go_ret
    exact ⟨rfl, rfl⟩
  by_cases h3 : what = 3
  · subst h3
    go_enter Tryz.func124, Tryz.ntmps124
    go_wp2
    go_ret
    exact ⟨rfl, rfl⟩
  by_cases h4 : what = 4
  · subst h4
    go_enter Tryz.func124, Tryz.ntmps124
    go_wp2
    go_ret
    exact ⟨rfl, rfl⟩
  by_cases h5 : what = 5
  · subst h5
    go_enter Tryz.func124, Tryz.ntmps124
    go_wp2
    go_ret
    exact ⟨rfl, rfl⟩
  have e : ruleV what = .nilIface := by simp [ruleV, h1, h2, h3, h4, h5]
  have g1 : (what == 1) = false := by simp [h1]
  have g2 : (what == 2) = false := by simp [h2]
  have g3 : (what == 3) = false := by simp [h3]
  have g4 : (what == 4) = false := by simp [h4]
  have g5 : (what == 5) = false := by simp [h5]
  rw [e]
  clear h1 h2 h3 h4 h5 e HR
  go_enter Tryz.func124, Tryz.ntmps124
  go_wp2
  go_ret
  exact ⟨rfl, rfl⟩

/-- Which function a rule is. -/
theorem meth1 : ∀ w : World, (method 342 211 (.agg #[]) "loop.example/lapplan/impl.fits").run Tryz.prog w = .ok (167, .agg #[]) w := fun _ => by kernel_rfl
theorem meth2 : ∀ w : World, (method 342 212 (.agg #[]) "loop.example/lapplan/impl.fits").run Tryz.prog w = .ok (168, .agg #[]) w := fun _ => by kernel_rfl
theorem meth3 : ∀ w : World, (method 342 213 (.agg #[]) "loop.example/lapplan/impl.fits").run Tryz.prog w = .ok (169, .agg #[]) w := fun _ => by kernel_rfl
theorem meth4 : ∀ w : World, (method 342 214 (.agg #[]) "loop.example/lapplan/impl.fits").run Tryz.prog w = .ok (170, .agg #[]) w := fun _ => by kernel_rfl
theorem meth5 : ∀ w : World, (method 342 215 (.agg #[]) "loop.example/lapplan/impl.fits").run Tryz.prog w = .ok (173, .agg #[]) w := fun _ => by kernel_rfl

set_option maxHeartbeats 1600000 in
theorem valueFits_any (vk vp : Value) (ks ps : List Tri) (what : Int) (s : ByteArray) (w : World) (hk : TrisAt w vk ks) (hp : TrisAt w vp ps) (hs : s.size ≤ 1048576) :
    Calls Tryz.prog 111 #[.agg #[vk, vp], .int .i64 what, .string s] w fun e w' => e = .returned (.bool (valB2 ks ps what s)) ∧ Below w.heap.size w w' := by
  have HK := hk; have HP := hp
  obtain ⟨ak, ck, rfl, -, -, -⟩ := hk
  obtain ⟨ap, cp, rfl, -, -, -⟩ := hp
  have HK1 : Hid (TrisAt w (.slice ak ks.length ck) ks) := HK
  have HP1 : Hid (TrisAt w (.slice ap ps.length cp) ps) := HP
  clear HK HP
  by_cases h1 : what = 1
  · subst h1
    have HE : Hid (valB2 ks ps 1 s = hasB ks s) := rfl
    have hm := meth1
    go_enter Tryz.func111, Tryz.ntmps111
    go_wp2_with fail
    refine (ruleOf_any _ _).mono ?_
    rintro e w1 ⟨rfl, rfl⟩
    have e1 : ruleV 1 = .iface 211 (.agg #[]) := rfl
    rw [e1]; clear e1
    go_wp2_with fail
    refine (kindRule_any _ _ ks s _ (HK1.out.alloc _)).mono ?_
    rintro e w2 ⟨rfl, hb2⟩
    go_wp2
    go_ret
    exact ⟨ret_bool HE.out.symm, below_step ((Below.refl _ _).alloc (Nat.le_refl _) _) hb2⟩
  by_cases h2 : what = 2
  · subst h2
    have HE : Hid (valB2 ks ps 2 s = timeB (cutW s)) := rfl
    have hm := meth2
    go_enter Tryz.func111, Tryz.ntmps111
    go_wp2_with fail
    refine (ruleOf_any _ _).mono ?_
    rintro e w1 ⟨rfl, rfl⟩
    have e1 : ruleV 2 = .iface 212 (.agg #[]) := rfl
    rw [e1]; clear e1
    go_wp2_with fail
    refine (timeRule_any _ _ s _ hs).mono ?_
    rintro e w2 ⟨rfl, hb2⟩
    go_wp2
    go_ret
    exact ⟨ret_bool HE.out.symm, below_step ((Below.refl _ _).alloc (Nat.le_refl _) _) hb2⟩
  by_cases h3 : what = 3
  · subst h3
    have HE : Hid (valB2 ks ps 3 s = levelB s) := rfl
    have hm := meth3
    go_enter Tryz.func111, Tryz.ntmps111
    go_wp2_with fail
    refine (ruleOf_any _ _).mono ?_
    rintro e w1 ⟨rfl, rfl⟩
    have e1 : ruleV 3 = .iface 213 (.agg #[]) := rfl
    rw [e1]; clear e1
    go_wp2_with fail
    refine (levelRule_any _ _ s _ hs).mono ?_
    rintro e w2 ⟨rfl, hb2⟩
    go_wp2
    go_ret
    exact ⟨ret_bool HE.out.symm, below_step ((Below.refl _ _).alloc (Nat.le_refl _) _) hb2⟩
  by_cases h4 : what = 4
  · subst h4
    have HE : Hid (valB2 ks ps 4 s = routeB ps (cutW s)) := rfl
    have hm := meth4
    go_enter Tryz.func111, Tryz.ntmps111
    go_wp2_with fail
    refine (ruleOf_any _ _).mono ?_
    rintro e w1 ⟨rfl, rfl⟩
    have e1 : ruleV 4 = .iface 214 (.agg #[]) := rfl
    rw [e1]; clear e1
    go_wp2_with fail
    refine (routeRule_any _ _ ps s _ hs (HP1.out.alloc _)).mono ?_
    rintro e w2 ⟨rfl, hb2⟩
    go_wp2
    go_ret
    exact ⟨ret_bool HE.out.symm, below_step ((Below.refl _ _).alloc (Nat.le_refl _) _) hb2⟩
  by_cases h5 : what = 5
  · subst h5
    have HE : Hid (valB2 ks ps 5 s = stateB s) := rfl
    have hm := meth5
    go_enter Tryz.func111, Tryz.ntmps111
    go_wp2_with fail
    refine (ruleOf_any _ _).mono ?_
    rintro e w1 ⟨rfl, rfl⟩
    have e1 : ruleV 5 = .iface 215 (.agg #[]) := rfl
    rw [e1]; clear e1
    go_wp2_with fail
    refine (stateRule_any _ _ s _).mono ?_
    rintro e w2 ⟨rfl, hb2⟩
    go_wp2
    go_ret
    exact ⟨ret_bool HE.out.symm, below_step ((Below.refl _ _).alloc (Nat.le_refl _) _) hb2⟩
  have HE : Hid (valB2 ks ps what s = false) := by show valB2 ks ps what s = false; simp [valB2, h1, h2, h3, h4, h5]
  have HR : Hid (ruleV what = .nilIface) := by show ruleV what = _; simp [ruleV, h1, h2, h3, h4, h5]
  clear h1 h2 h3 h4 h5
  go_enter Tryz.func111, Tryz.ntmps111
  go_wp2_with fail
  refine (ruleOf_any _ _).mono ?_
  rw [HR.out]
  rintro e w1 ⟨rfl, rfl⟩
  go_wp2
  go_ret
  exact ⟨ret_bool HE.out.symm, (Below.refl _ _).alloc (Nat.le_refl _) _⟩
end Go.Proofs.YtfjblenkcfdbiaaGreatDoor

namespace Go.Proofs.YtfjblenkcfdbiaaGreatDoor
open Go.RowKit
attribute [local go_sem] Later.cell Later.frozen

set_option maxHeartbeats 1600000 in
theorem changeFits_any (vk vp : Value) (ks ps : List Tri) (c : Chg) (w : World) (hk : TrisAt w vk ks) (hp : TrisAt w vp ps) (hf : c.f.size ≤ 1048576) (hs : c.v.size ≤ 1048576) :
    Calls Tryz.prog 90 #[.agg #[vk, vp], .agg #[.string c.f, .int .i64 c.what, .int .i64 c.num, .string c.v]] w fun e w' => e = .returned (.bool (fitB ks ps c)) ∧ Below w.heap.size w w' := by
  have HK := hk; have HP := hp
  obtain ⟨ak, ck, rfl, -, -, -⟩ := hk
  obtain ⟨ap, cp, rfl, -, -, -⟩ := hp
  have HK1 : Hid (TrisAt w (.slice ak ks.length ck) ks) := HK
  have HP1 : Hid (TrisAt w (.slice ap ps.length cp) ps) := HP
  clear HK HP
  obtain ⟨f, what, num, v⟩ := c
  dsimp only at *
  have HE : Hid (fitB ks ps ⟨f, what, num, v⟩ = (nameB f && (inB num 1 1000000 && valB2 ks ps what v))) := rfl
  generalize fitB ks ps ⟨f, what, num, v⟩ = res at HE ⊢
  go_enter Tryz.func90, Tryz.ntmps90
  go_wp2_with fail
  refine (nameOk_any f _ (by unfold maxLen; omega)).mono ?_
  rintro e w1 ⟨rfl, hb1⟩
  have k0 : w1.cell? ⟨w.heap.size, 0, none⟩ = some (.slice ak ks.length ck) := cell_keep hb1 (Nat.le_refl _) (by simp [go_sem])
  have k1 : w1.cell? ⟨w.heap.size, 1, none⟩ = some (.slice ap ps.length cp) := cell_keep hb1 (Nat.le_refl _) (by simp [go_sem])
  have c0 : w1.cell? ⟨w.heap.size + 1, 0, none⟩ = some (.string f) := cell_keep hb1 (Nat.le_refl _) (by simp [go_sem])
  have c1 : w1.cell? ⟨w.heap.size + 1, 1, none⟩ = some (.int .i64 what) := cell_keep hb1 (Nat.le_refl _) (by simp [go_sem])
  have c2 : w1.cell? ⟨w.heap.size + 1, 2, none⟩ = some (.int .i64 num) := cell_keep hb1 (Nat.le_refl _) (by simp [go_sem])
  have c3 : w1.cell? ⟨w.heap.size + 1, 3, none⟩ = some (.string v) := cell_keep hb1 (Nat.le_refl _) (by simp [go_sem])
  have HB1 : Hid (Below w.heap.size w w1) := below_step (((Below.refl _ _).alloc (Nat.le_refl _) _).alloc (by simp) _) hb1
  clear hb1
  generalize nameB f = b1 at *
  cases b1
  · go_wp2
    go_ret
    exact ⟨ret_bool (by rw [HE.out]; rfl), HB1.out⟩
  · go_wp2_with fail
    refine (numberOk_any _ _).mono ?_
    rintro e w2 ⟨rfl, hw2⟩
    subst hw2
    generalize inB num 1 1000000 = b2 at *
    cases b2
    · go_wp2
      go_ret
      exact ⟨ret_bool (by rw [HE.out]; rfl), HB1.out⟩
    · go_wp2_with fail
      refine (valueFits_any _ _ ks ps what v _ (HK1.out.keep HB1.out) (HP1.out.keep HB1.out) hs).mono ?_
      rintro e w3 ⟨rfl, hb3⟩
      go_wp2
      go_ret
      exact ⟨ret_bool (by rw [HE.out]; rfl), below_step HB1.out hb3⟩

end Go.Proofs.YtfjblenkcfdbiaaGreatDoor
