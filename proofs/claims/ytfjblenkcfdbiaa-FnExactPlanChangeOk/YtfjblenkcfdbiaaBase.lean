
/-
  A base: impl's PlanBaseOk, and the law's own sizes, copies and comparisons of bases.
-/
import Derived.Test.YtfjblenkcfdbiaaPoints
namespace Go.Proofs.Ytfjblenkcfdbiaa
open Go.RowKit

/-- Names that fit into memory. -/
def Names (l : List Tri) : Prop := ∀ t ∈ l, t.s.size ≤ maxLen
theorem TrisAt.alloc {w : World} {v : Value} {l : List Tri} (h : TrisAt w v l) (o : Obj) : TrisAt (w.alloc o) v l := h.keep ((Below.refl _ _).alloc (Nat.le_refl _) _)

set_option maxHeartbeats 800000 in
theorem baseOk_any (vk vp : Value) (ks ps : List Tri) (w : World) (hk : TrisAt w vk ks) (hp : TrisAt w vp ps) (nk : Names ks) (np : Names ps) :
    Calls Try.prog 11 #[.agg #[vk, vp]] w fun e w' => e = .returned (.bool (kindsB ks && pointsB ps)) ∧ Below w.heap.size w w' := by
  have HK := hk; have HP := hp
  obtain ⟨ak, ck, rfl, -, -, -⟩ := hk
  obtain ⟨ap, cp, rfl, -, -, -⟩ := hp
  have HK1 : Hid (TrisAt w (.slice ak ks.length ck) ks) := HK
  have HP1 : Hid (TrisAt w (.slice ap ps.length cp) ps) := HP
  have NK : Hid (Names ks) := nk
  have NP : Hid (Names ps) := np
  clear HK HP nk np
  cases h1 : kindsB ks
  · have H1 : Hid (kindsB ks = false) := h1
    rw [Bool.false_and]; clear h1
    go_enter Try.func11, Try.ntmps11
    go_wp2_with fail
    refine (kindsOk_any _ ks _ (HK1.out.alloc _) NK.out).mono ?_
    rw [H1.out]
    rintro e w1 ⟨rfl, hb1⟩
    go_wp2
    go_ret
    exact ⟨rfl, below_step ((Below.refl _ _).alloc (Nat.le_refl _) _) hb1⟩
  · have H1 : Hid (kindsB ks = true) := h1
    rw [Bool.true_and]; clear h1
    go_enter Try.func11, Try.ntmps11
    go_wp2_with fail
    refine (kindsOk_any _ ks _ (HK1.out.alloc _) NK.out).mono ?_
    rw [H1.out]
    rintro e w1 ⟨rfl, hb1⟩
    have c1 : w1.cell? ⟨w.heap.size, 1, none⟩ = some (.slice ap ps.length cp) := cell_keep hb1 (Nat.le_refl _) (by simp)
    have hbw := below_step ((Below.refl _ _).alloc (Nat.le_refl _) _) hb1
    go_wp2_with fail
    refine (pointsOk_any _ ps _ (HP1.out.keep hbw) NP.out).mono ?_
    rintro e w2 ⟨rfl, hb2⟩
    go_wp2
    go_ret
    exact ⟨rfl, below_step hbw hb2⟩

set_option maxHeartbeats 800000 in
theorem szBase_any (vk vp : Value) (ks ps : List Tri) (left : Int) (w : World) (hk : TrisAt w vk ks) (hp : TrisAt w vp ps) (nk : Names ks) (np : Names ps) (hl : 0 ≤ left) (hl' : left ≤ 1048576) :
    Calls Try.prog 8 #[.agg #[vk, vp], .int .i64 left] w fun e w' => e = .returned (.int .i64 (szR (szTris ks + szTris ps) left)) ∧ Below w.heap.size w w' := by
  have HK := hk; have HP := hp
  obtain ⟨ak, ck, rfl, -, -, -⟩ := hk
  obtain ⟨ap, cp, rfl, -, -, -⟩ := hp
  have HK1 : Hid (TrisAt w (.slice ak ks.length ck) ks) := HK
  have HP1 : Hid (TrisAt w (.slice ap ps.length cp) ps) := HP
  have NK : Hid (Names ks) := nk
  have NP : Hid (Names ps) := np
  clear HK HP nk np
  by_cases h1 : (szTris ks : Int) ≤ left
  · have H1 : Hid (szR (szTris ks) left = left - szTris ks) := szR_pos h1
    have g1 : 0 ≤ left - (szTris ks : Int) := by omega
    by_cases h2 : (szTris ps : Int) ≤ left - szTris ks
    · have H2 : Hid (szR (szTris ps) (left - szTris ks) = left - szTris ks - szTris ps) := szR_pos h2
      rw [szR_pos (by omega)]
      have FIN : Hid (left - szTris ks - szTris ps = left - ((szTris ks + szTris ps : Nat) : Int)) := by show _ = _; omega
      rw [← FIN.out]
      have g2 : 0 ≤ left - (szTris ks : Int) - szTris ps := by omega
      clear h1 h2
      go_enter Try.func8, Try.ntmps8
      go_wp2_with fail
      refine (szKinds_any _ ks _ _ (HK1.out.alloc _) NK.out hl hl').mono ?_
      rw [H1.out]
      rintro e w1 ⟨rfl, hb1⟩
      have c1 : w1.cell? ⟨w.heap.size, 1, none⟩ = some (.slice ap ps.length cp) := cell_keep hb1 (Nat.le_refl _) (by simp)
      have hbw := below_step ((Below.refl _ _).alloc (Nat.le_refl _) _) hb1
      go_wp2_with fail
      refine (szPoints_any _ ps _ _ (HP1.out.keep hbw) NP.out g1 (by omega)).mono ?_
      rw [H2.out]
      rintro e w2 ⟨rfl, hb2⟩
      go_wp2
      go_ret
      exact ⟨rfl, below_step hbw hb2⟩
    · have H2 : Hid (szR (szTris ps) (left - szTris ks) = -1) := szR_neg h2
      rw [szR_neg (by omega)]
      clear h1 h2
      go_enter Try.func8, Try.ntmps8
      go_wp2_with fail
      refine (szKinds_any _ ks _ _ (HK1.out.alloc _) NK.out hl hl').mono ?_
      rw [H1.out]
      rintro e w1 ⟨rfl, hb1⟩
      have c1 : w1.cell? ⟨w.heap.size, 1, none⟩ = some (.slice ap ps.length cp) := cell_keep hb1 (Nat.le_refl _) (by simp)
      have hbw := below_step ((Below.refl _ _).alloc (Nat.le_refl _) _) hb1
      go_wp2_with fail
      refine (szPoints_any _ ps _ _ (HP1.out.keep hbw) NP.out g1 (by omega)).mono ?_
      rw [H2.out]
      rintro e w2 ⟨rfl, hb2⟩
      go_wp2
      go_ret
      exact ⟨rfl, below_step hbw hb2⟩
  · have H1 : Hid (szR (szTris ks) left = -1) := szR_neg h1
    rw [szR_neg (by omega)]
    clear h1
    go_enter Try.func8, Try.ntmps8
    go_wp2_with fail
    refine (szKinds_any _ ks _ _ (HK1.out.alloc _) NK.out hl hl').mono ?_
    rw [H1.out]
    rintro e w1 ⟨rfl, hb1⟩
    go_wp2
    go_ret
    exact ⟨rfl, below_step ((Below.refl _ _).alloc (Nat.le_refl _) _) hb1⟩

theorem TrisAt.setOther {w : World} {b n cap : Nat} {l : List Tri} (h : TrisAt w (.slice (some ⟨b, 0, none⟩) n cap) l) (k o : Nat) (hp : b ≠ k) (v : Value) : TrisAt (w.setCell ⟨k, o, none⟩ v) (.slice (some ⟨b, 0, none⟩) n cap) l := by
  obtain ⟨a', cap', he, h1, h2, h3⟩ := h
  cases he
  refine ⟨_, _, rfl, h1, h2, fun i t ht => ?_⟩
  obtain ⟨b', off, ha, c0, c1, c2⟩ := h3 i t ht
  cases ha
  have hc : ∀ o', (w.setCell ⟨k, o, none⟩ v).cell? ⟨b, o', none⟩ = w.cell? ⟨b, o', none⟩ := fun o' => World.cell?_of_block (w := w) (Below.heap_setCell w ⟨k, o, none⟩ v b hp)
  exact ⟨_, _, rfl, by rw [hc]; exact c0, by rw [hc]; exact c1, by rw [hc]; exact c2⟩

theorem below_set {B : Nat} {a w : World} (h : Below B a w) (k o : Nat) (hk : B ≤ k) (v : Value) : Below B a (w.setCell ⟨k, o, none⟩ v) := h.setCell (p := ⟨k, o, none⟩) hk v

set_option maxHeartbeats 1600000 in
theorem toBase_any (vk vp : Value) (ks ps : List Tri) (w : World) (hk : TrisAt w vk ks) (hp : TrisAt w vp ps) (lk : ks.length ≤ 1048576) (lp : ps.length ≤ 1048576) :
    Calls Try.prog 10 #[.agg #[vk, vp]] w fun e w' => ∃ uk up, e = .returned (.agg #[uk, up]) ∧ TrisAt w' uk ks ∧ TrisAt w' up ps ∧ Below w.heap.size w w' := by
  have HK := hk; have HP := hp
  obtain ⟨ak, ck, rfl, -, -, -⟩ := hk
  obtain ⟨ap, cp, rfl, -, -, -⟩ := hp
  have HK1 : Hid (TrisAt w (.slice ak ks.length ck) ks) := HK
  have HP1 : Hid (TrisAt w (.slice ap ps.length cp) ps) := HP
  clear HK HP
  go_enter Try.func10, Try.ntmps10
  go_wp2_with fail
  refine (toKinds_any _ ks _ (((HK1.out.alloc _).alloc _).alloc _) lk).mono ?_
  rintro e w1 ⟨rfl, tk, hb1, hz1⟩
  have c01 : w1.cell? ⟨w.heap.size, 1, none⟩ = some (.slice ap ps.length cp) := cell_keep hb1 (Nat.le_refl _) (by simp [go_sem])
  have c10 : w1.cell? ⟨w.heap.size + 1, 0, none⟩ = some (.slice none 0 0) := cell_keep hb1 (Nat.le_refl _) (by simp [go_sem])
  have c11 : w1.cell? ⟨w.heap.size + 1, 1, none⟩ = some (.slice none 0 0) := cell_keep hb1 (Nat.le_refl _) (by simp [go_sem])
  have c20 : w1.cell? ⟨w.heap.size + 1 + 1, 0, none⟩ = some (.slice none 0 0) := cell_keep hb1 (Nat.le_refl _) (by simp [go_sem])
  have c21 : w1.cell? ⟨w.heap.size + 1 + 1, 1, none⟩ = some (.slice none 0 0) := cell_keep hb1 (Nat.le_refl _) (by simp [go_sem])
  have fz : ∀ k o, k < w.heap.size + 3 → w.heap.size ≤ k → w1.frozen? ⟨k, o, none⟩ = false := fun k o hk hk' => by
    rw [hb1.frozen (p := ⟨k, o, none⟩) (by simp; omega)]
    have : k = w.heap.size ∨ k = w.heap.size + 1 ∨ k = w.heap.size + 1 + 1 := by omega
    rcases this with rfl | rfl | rfl <;> simp [go_sem]
  have f10 := fz (w.heap.size + 1) 0 (by omega) (by omega)
  have f11 := fz (w.heap.size + 1) 1 (by omega) (by omega)
  have f20 := fz (w.heap.size + 1 + 1) 0 (by omega) (by omega)
  have f21 := fz (w.heap.size + 1 + 1) 1 (by omega) (by omega)
  clear fz
  have hbw : Below w.heap.size w w1 := below_step ((((Below.refl _ _).alloc (Nat.le_refl _) _).alloc (by simp) _).alloc (by simp; omega) _) hb1
  simp only [World.size_alloc] at tk hz1
  have hs1 : w.heap.size + 1 + 1 + 1 < w1.heap.size := hz1
  have HT : Hid (TrisAt w1 (.slice (some ⟨w.heap.size + 1 + 1 + 1, 0, none⟩) ks.length ks.length) ks) := tk
  have HB : Hid (Below w.heap.size w w1) := hbw
  clear tk hbw hb1 hz1
  simp only [World.size_alloc]
  go_wp2_with fail
  generalize hX : Value.slice (some ⟨w.heap.size + 1 + 1 + 1, 0, none⟩) ks.length ks.length = X
  have HX : Hid (Value.slice (some ⟨w.heap.size + 1 + 1 + 1, 0, none⟩) ks.length ks.length = X) := hX
  clear hX
  have hb1' : Below w.heap.size w (w1.setCell ⟨w.heap.size + 1 + 1, 0, none⟩ X) := HB.out.setCell (by simp; omega) _
  refine (toPoints_any _ ps _ (HP1.out.keep hb1') lp).mono ?_
  rintro e w2 ⟨rfl, tp, hb2, hz2⟩
  have hsz : (w1.setCell ⟨w.heap.size + 1 + 1, 0, none⟩ X).heap.size = w1.heap.size := by simp
  rw [hsz] at tp hz2 ⊢
  have keep2 : ∀ k o, k < w1.heap.size → k ≠ w.heap.size + 1 + 1 → w2.cell? ⟨k, o, none⟩ = w1.cell? ⟨k, o, none⟩ := fun k o hk hne => by
    rw [hb2.cell (p := ⟨k, o, none⟩) (by rw [hsz]; exact hk)]
    exact World.cell?_of_block (w := w1) (Below.heap_setCell w1 _ X k hne)
  have d10 := (keep2 (w.heap.size + 1) 0 (by omega) (by omega)).trans c10
  have d11 := (keep2 (w.heap.size + 1) 1 (by omega) (by omega)).trans c11
  have d20 : w2.cell? ⟨w.heap.size + 1 + 1, 0, none⟩ = some X := cell_keep hb2 (Nat.le_refl _) (by simp [go_sem, c20])
  have d21 : w2.cell? ⟨w.heap.size + 1 + 1, 1, none⟩ = some (.slice none 0 0) := cell_keep hb2 (Nat.le_refl _) (by simp [go_sem, c21])
  have g10 : w2.frozen? ⟨w.heap.size + 1, 0, none⟩ = false := by rw [hb2.frozen (p := ⟨w.heap.size + 1, 0, none⟩) (by rw [hsz]; show w.heap.size + 1 < _; omega)]; simp [f10]
  have g11 : w2.frozen? ⟨w.heap.size + 1, 1, none⟩ = false := by rw [hb2.frozen (p := ⟨w.heap.size + 1, 1, none⟩) (by rw [hsz]; show w.heap.size + 1 < _; omega)]; simp [f11]
  have g21 : w2.frozen? ⟨w.heap.size + 1 + 1, 1, none⟩ = false := by rw [hb2.frozen (p := ⟨w.heap.size + 1 + 1, 1, none⟩) (by rw [hsz]; show w.heap.size + 1 + 1 < _; omega)]; simp [f21]
  have tk2 : TrisAt w2 (.slice (some ⟨w.heap.size + 1 + 1 + 1, 0, none⟩) ks.length ks.length) ks := (HT.out.setOther (w.heap.size + 1 + 1) 0 (by omega) X).keep hb2
  have hbw2 : Below w.heap.size w w2 := below_step hb1' hb2
  have FIN : Hid (TrisAt (((w2.setCell ⟨w.heap.size + 1 + 1, 1, none⟩ (.slice (some ⟨w1.heap.size, 0, none⟩) ps.length ps.length)).setCell ⟨w.heap.size + 1, 0, none⟩ X).setCell ⟨w.heap.size + 1, 1, none⟩ (.slice (some ⟨w1.heap.size, 0, none⟩) ps.length ps.length)) (.slice (some ⟨w.heap.size + 1 + 1 + 1, 0, none⟩) ks.length ks.length) ks ∧
      TrisAt (((w2.setCell ⟨w.heap.size + 1 + 1, 1, none⟩ (.slice (some ⟨w1.heap.size, 0, none⟩) ps.length ps.length)).setCell ⟨w.heap.size + 1, 0, none⟩ X).setCell ⟨w.heap.size + 1, 1, none⟩ (.slice (some ⟨w1.heap.size, 0, none⟩) ps.length ps.length)) (.slice (some ⟨w1.heap.size, 0, none⟩) ps.length ps.length) ps ∧
      Below w.heap.size w (((w2.setCell ⟨w.heap.size + 1 + 1, 1, none⟩ (.slice (some ⟨w1.heap.size, 0, none⟩) ps.length ps.length)).setCell ⟨w.heap.size + 1, 0, none⟩ X).setCell ⟨w.heap.size + 1, 1, none⟩ (.slice (some ⟨w1.heap.size, 0, none⟩) ps.length ps.length))) :=
    ⟨((tk2.setOther _ _ (by omega) _).setOther _ _ (by omega) _).setOther _ _ (by omega) _, ((tp.setOther _ _ (by omega) _).setOther _ _ (by omega) _).setOther _ _ (by omega) _,
      below_set (below_set (below_set hbw2 _ _ (by omega) _) _ _ (by omega) _) _ _ (by omega) _⟩
  clear tk2 tp hb2 hb1' hbw2 keep2 c01 c10 c11 c20 c21 f10 f11 f20 f21 hz2 hsz
  obtain ⟨aX, lX, cX, hX⟩ : ∃ aX lX cX, X = .slice aX lX cX := ⟨_, _, _, HX.out.symm⟩
  subst hX
  go_wp2
  refine bodyPost_ret (v := .agg #[.slice aX lX cX, .slice (some ⟨w1.heap.size, 0, none⟩) ps.length ps.length]) (by simp [results, Try.results10, go_sem, *]) rfl ⟨_, _, rfl, ?_⟩
  have h := FIN.out
  rw [HX.out] at h
  exact h
end Go.Proofs.Ytfjblenkcfdbiaa
