
/-
  impl: which rule, and what fits.
-/
import Derived.Test.YtfjblenkcfdbiaaFits2
import Derived.Test.YtfjblenkcfdbiaaBase
namespace Go.Proofs.Ytfjblenkcfdbiaa
open Go.RowKit
attribute [local go_sem] Later.cell Later.frozen

def ruleV (what : Int) : Value :=
  if what = 1 then .iface 155 (.agg #[]) else if what = 2 then .iface 156 (.agg #[]) else if what = 3 then .iface 157 (.agg #[]) else if what = 4 then .iface 158 (.agg #[]) else if what = 5 then .iface 159 (.agg #[]) else .nilIface

theorem ret_v {a b : Value} (h : a = b) : Ending.returned a = .returned b := by rw [h]

set_option maxHeartbeats 800000 in
theorem ruleOf_any (what : Int) (w : World) :
    Calls Try.prog 102 #[.int .i64 what] w fun e w' => e = .returned (ruleV what) ∧ w' = w := by
  have HR : Hid (ruleV what = ruleV what) := rfl
  by_cases h1 : what = 1
  · subst h1
    go_enter Try.func102, Try.ntmps102
    go_wp2
    go_ret
    exact ⟨rfl, rfl⟩
  by_cases h2 : what = 2
  · subst h2
    go_enter Try.func102, Try.ntmps102
    go_wp2
    go_ret
    exact ⟨rfl, rfl⟩
  by_cases h3 : what = 3
  · subst h3
    go_enter Try.func102, Try.ntmps102
    go_wp2
    go_ret
    exact ⟨rfl, rfl⟩
  by_cases h4 : what = 4
  · subst h4
    go_enter Try.func102, Try.ntmps102
    go_wp2
    go_ret
    exact ⟨rfl, rfl⟩
  by_cases h5 : what = 5
  · subst h5
    go_enter Try.func102, Try.ntmps102
    go_wp2
    go_ret
    exact ⟨rfl, rfl⟩
  have e : ruleV what = .nilIface := by simp [ruleV, h1, h2, h3, h4, h5]
  have g1 : (what == 1) = false := by simp [h1]
  have g2 : (what == 2) = false := by simp [h2]
  have g3 : (what == 3) = false := by simp [h3]
  have g4 : (what == 4) = false := by simp [h4]
  have g5 : (what == 5) = false := by simp [h5]
  rw [e]
  clear h1 h2 h3 h4 h5 e HR
  go_enter Try.func102, Try.ntmps102
  go_wp2
  go_ret
  exact ⟨rfl, rfl⟩

/-- Which function a rule is. -/
theorem meth1 : ∀ w : World, (method 287 155 (.agg #[]) "loop.example/lapplan/impl.fits").run Try.prog w = .ok (130, .agg #[]) w := fun _ => by kernel_rfl
theorem meth2 : ∀ w : World, (method 287 156 (.agg #[]) "loop.example/lapplan/impl.fits").run Try.prog w = .ok (132, .agg #[]) w := fun _ => by kernel_rfl
theorem meth3 : ∀ w : World, (method 287 157 (.agg #[]) "loop.example/lapplan/impl.fits").run Try.prog w = .ok (136, .agg #[]) w := fun _ => by kernel_rfl
theorem meth4 : ∀ w : World, (method 287 158 (.agg #[]) "loop.example/lapplan/impl.fits").run Try.prog w = .ok (137, .agg #[]) w := fun _ => by kernel_rfl
theorem meth5 : ∀ w : World, (method 287 159 (.agg #[]) "loop.example/lapplan/impl.fits").run Try.prog w = .ok (138, .agg #[]) w := fun _ => by kernel_rfl

set_option maxHeartbeats 1600000 in
theorem valueFits_any (vk vp : Value) (ks ps : List Tri) (what : Int) (s : ByteArray) (w : World) (hk : TrisAt w vk ks) (hp : TrisAt w vp ps) (hs : s.size ≤ 1048576) :
    Calls Try.prog 88 #[.agg #[vk, vp], .int .i64 what, .string s] w fun e w' => e = .returned (.bool (valB2 ks ps what s)) ∧ Below w.heap.size w w' := by
  have HK := hk; have HP := hp
  obtain ⟨ak, ck, rfl, -, -, -⟩ := hk
  obtain ⟨ap, cp, rfl, -, -, -⟩ := hp
  have HK1 : Hid (TrisAt w (.slice ak ks.length ck) ks) := HK
  have HP1 : Hid (TrisAt w (.slice ap ps.length cp) ps) := HP
  clear HK HP
  by_cases h1 : what = 1
  · subst h1
    have HE : Hid (valB2 ks ps 1 s = hasB ks s) := rfl
    have hm := meth1
    go_enter Try.func88, Try.ntmps88
    go_wp2_with fail
    refine (ruleOf_any _ _).mono ?_
    rintro e w1 ⟨rfl, rfl⟩
    have e1 : ruleV 1 = .iface 155 (.agg #[]) := rfl
    rw [e1]; clear e1
    go_wp2_with fail
    refine (kindRule_any _ _ ks s _ (HK1.out.alloc _)).mono ?_
    rintro e w2 ⟨rfl, hb2⟩
    go_wp2
    go_ret
    exact ⟨ret_bool HE.out.symm, below_step ((Below.refl _ _).alloc (Nat.le_refl _) _) hb2⟩
  by_cases h2 : what = 2
  · subst h2
    have HE : Hid (valB2 ks ps 2 s = timeB (cutW s)) := rfl
    have hm := meth2
    go_enter Try.func88, Try.ntmps88
    go_wp2_with fail
    refine (ruleOf_any _ _).mono ?_
    rintro e w1 ⟨rfl, rfl⟩
    have e1 : ruleV 2 = .iface 156 (.agg #[]) := rfl
    rw [e1]; clear e1
    go_wp2_with fail
    refine (timeRule_any _ _ s _ hs).mono ?_
    rintro e w2 ⟨rfl, hb2⟩
    go_wp2
    go_ret
    exact ⟨ret_bool HE.out.symm, below_step ((Below.refl _ _).alloc (Nat.le_refl _) _) hb2⟩
  by_cases h3 : what = 3
  · subst h3
    have HE : Hid (valB2 ks ps 3 s = levelB s) := rfl
    have hm := meth3
    go_enter Try.func88, Try.ntmps88
    go_wp2_with fail
    refine (ruleOf_any _ _).mono ?_
    rintro e w1 ⟨rfl, rfl⟩
    have e1 : ruleV 3 = .iface 157 (.agg #[]) := rfl
    rw [e1]; clear e1
    go_wp2_with fail
    refine (levelRule_any _ _ s _ hs).mono ?_
    rintro e w2 ⟨rfl, hb2⟩
    go_wp2
    go_ret
    exact ⟨ret_bool HE.out.symm, below_step ((Below.refl _ _).alloc (Nat.le_refl _) _) hb2⟩
  by_cases h4 : what = 4
  · subst h4
    have HE : Hid (valB2 ks ps 4 s = routeB ps (cutW s)) := rfl
    have hm := meth4
    go_enter Try.func88, Try.ntmps88
    go_wp2_with fail
    refine (ruleOf_any _ _).mono ?_
    rintro e w1 ⟨rfl, rfl⟩
    have e1 : ruleV 4 = .iface 158 (.agg #[]) := rfl
    rw [e1]; clear e1
    go_wp2_with fail
    refine (routeRule_any _ _ ps s _ hs (HP1.out.alloc _)).mono ?_
    rintro e w2 ⟨rfl, hb2⟩
    go_wp2
    go_ret
    exact ⟨ret_bool HE.out.symm, below_step ((Below.refl _ _).alloc (Nat.le_refl _) _) hb2⟩
  by_cases h5 : what = 5
  · subst h5
    have HE : Hid (valB2 ks ps 5 s = stateB s) := rfl
    have hm := meth5
    go_enter Try.func88, Try.ntmps88
    go_wp2_with fail
    refine (ruleOf_any _ _).mono ?_
    rintro e w1 ⟨rfl, rfl⟩
    have e1 : ruleV 5 = .iface 159 (.agg #[]) := rfl
    rw [e1]; clear e1
    go_wp2_with fail
    refine (stateRule_any _ _ s _).mono ?_
    rintro e w2 ⟨rfl, hb2⟩
    go_wp2
    go_ret
    exact ⟨ret_bool HE.out.symm, below_step ((Below.refl _ _).alloc (Nat.le_refl _) _) hb2⟩
  have HE : Hid (valB2 ks ps what s = false) := by show valB2 ks ps what s = false; simp [valB2, h1, h2, h3, h4, h5]
  have HR : Hid (ruleV what = .nilIface) := by show ruleV what = _; simp [ruleV, h1, h2, h3, h4, h5]
  clear h1 h2 h3 h4 h5
  go_enter Try.func88, Try.ntmps88
  go_wp2_with fail
  refine (ruleOf_any _ _).mono ?_
  rw [HR.out]
  rintro e w1 ⟨rfl, rfl⟩
  go_wp2
  go_ret
  exact ⟨ret_bool HE.out.symm, (Below.refl _ _).alloc (Nat.le_refl _) _⟩
end Go.Proofs.Ytfjblenkcfdbiaa
