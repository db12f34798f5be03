/-
  For the proof of print_card: part 10 (Base, BookB, Book1, Rows2, Book2, Own).
-/
import Derived.Deep.MidRow
import Derived.Deep.RegionHeld3
import Derived.Test.YthccipaobeapbabGreatDoorRowPrintJ9
/-
  A base: impl's PlanBaseOk, and the law's own sizes, copies and comparisons of bases.
-/
namespace Go.Proofs.YthccipaobeapbabGreatDoor
open Go.RowKit

/-- Names that fit into memory. -/
def Names (l : List Tri) : Prop := ∀ t ∈ l, t.s.size ≤ maxLen
theorem TrisAt.alloc {w : World} {v : Value} {l : List Tri} (h : TrisAt w v l) (o : Obj) : TrisAt (w.alloc o) v l := h.keep ((Below.refl _ _).alloc (Nat.le_refl _) _)

set_option maxHeartbeats 800000 in
theorem baseOk_any (vk vp : Value) (ks ps : List Tri) (w : World) (hk : TrisAt w vk ks) (hp : TrisAt w vp ps) (nk : Names ks) (np : Names ps) :
    Calls Tryz.prog 90 #[.agg #[vk, vp]] w fun e w' => e = .returned (.bool (kindsB ks && pointsB ps)) ∧ Below w.heap.size w w' := by
  have HK := hk; have HP := hp
  obtain ⟨ak, ck, rfl, -, -, -⟩ := hk
  obtain ⟨ap, cp, rfl, -, -, -⟩ := hp
  have HK1 : Hid (TrisAt w (.slice ak ks.length ck) ks) := HK
  have HP1 : Hid (TrisAt w (.slice ap ps.length cp) ps) := HP
  have NK : Hid (Names ks) := nk
  have NP : Hid (Names ps) := np
  clear HK HP nk np
  cases h1 : kindsB ks
  · have H1 : Hid (kindsB ks = false) := h1
    rw [Bool.false_and]; clear h1
    go_enter Tryz.func90, Tryz.ntmps90
    go_wp2_with fail
    refine (kindsOk_any _ ks _ (HK1.out.alloc _) NK.out).mono ?_
    rw [H1.out]
    rintro e w1 ⟨rfl, hb1⟩
    go_wp2
    go_ret
    exact ⟨rfl, below_step ((Below.refl _ _).alloc (Nat.le_refl _) _) hb1⟩
  · have H1 : Hid (kindsB ks = true) := h1
    rw [Bool.true_and]; clear h1
    go_enter Tryz.func90, Tryz.ntmps90
    go_wp2_with fail
    refine (kindsOk_any _ ks _ (HK1.out.alloc _) NK.out).mono ?_
    rw [H1.out]
    rintro e w1 ⟨rfl, hb1⟩
    have c1 : w1.cell? ⟨w.heap.size, 1, none⟩ = some (.slice ap ps.length cp) := cell_keep hb1 (Nat.le_refl _) (by simp)
    have hbw := below_step ((Below.refl _ _).alloc (Nat.le_refl _) _) hb1
    go_wp2_with fail
    refine (pointsOk_any _ ps _ (HP1.out.keep hbw) NP.out).mono ?_
    rintro e w2 ⟨rfl, hb2⟩
    go_wp2
    go_ret
    exact ⟨rfl, below_step hbw hb2⟩

set_option maxHeartbeats 800000 in
theorem szBase_any (vk vp : Value) (ks ps : List Tri) (left : Int) (w : World) (hk : TrisAt w vk ks) (hp : TrisAt w vp ps) (nk : Names ks) (np : Names ps) (hl : 0 ≤ left) (hl' : left ≤ 1048576) :
    Calls Tryz.prog 38 #[.agg #[vk, vp], .int .i64 left] w fun e w' => e = .returned (.int .i64 (szR (szTris ks + szTris ps) left)) ∧ Below w.heap.size w w' := by
  have HK := hk; have HP := hp
  obtain ⟨ak, ck, rfl, -, -, -⟩ := hk
  obtain ⟨ap, cp, rfl, -, -, -⟩ := hp
  have HK1 : Hid (TrisAt w (.slice ak ks.length ck) ks) := HK
  have HP1 : Hid (TrisAt w (.slice ap ps.length cp) ps) := HP
  have NK : Hid (Names ks) := nk
  have NP : Hid (Names ps) := np
  clear HK HP nk np
  by_cases h1 : (szTris ks : Int) ≤ left
  · have H1 : Hid (szR (szTris ks) left = left - szTris ks) := szR_pos h1
    have g1 : 0 ≤ left - (szTris ks : Int) := by omega
    by_cases h2 : (szTris ps : Int) ≤ left - szTris ks
    · have H2 : Hid (szR (szTris ps) (left - szTris ks) = left - szTris ks - szTris ps) := szR_pos h2
      rw [szR_pos (by omega)]
      have FIN : Hid (left - szTris ks - szTris ps = left - ((szTris ks + szTris ps : Nat) : Int)) := by show _ = _; omega
      rw [← FIN.out]
      have g2 : 0 ≤ left - (szTris ks : Int) - szTris ps := by omega
      clear h1 h2
      go_enter Tryz.func38, Tryz.ntmps38
      go_wp2_with fail
      refine (szKinds_any _ ks _ _ (HK1.out.alloc _) NK.out hl hl').mono ?_
      rw [H1.out]
      rintro e w1 ⟨rfl, hb1⟩
      have c1 : w1.cell? ⟨w.heap.size, 1, none⟩ = some (.slice ap ps.length cp) := cell_keep hb1 (Nat.le_refl _) (by simp)
      have hbw := below_step ((Below.refl _ _).alloc (Nat.le_refl _) _) hb1
      go_wp2_with fail
      refine (szPoints_any _ ps _ _ (HP1.out.keep hbw) NP.out g1 (by omega)).mono ?_
      rw [H2.out]
      rintro e w2 ⟨rfl, hb2⟩
      go_wp2
      go_ret
      exact ⟨rfl, below_step hbw hb2⟩
    · have H2 : Hid (szR (szTris ps) (left - szTris ks) = -1) := szR_neg h2
      rw [szR_neg (by omega)]
      clear h1 h2
      go_enter Tryz.func38, Tryz.ntmps38
      go_wp2_with fail
      refine (szKinds_any _ ks _ _ (HK1.out.alloc _) NK.out hl hl').mono ?_
      rw [H1.out]
      rintro e w1 ⟨rfl, hb1⟩
      have c1 : w1.cell? ⟨w.heap.size, 1, none⟩ = some (.slice ap ps.length cp) := cell_keep hb1 (Nat.le_refl _) (by simp)
      have hbw := below_step ((Below.refl _ _).alloc (Nat.le_refl _) _) hb1
      go_wp2_with fail
      refine (szPoints_any _ ps _ _ (HP1.out.keep hbw) NP.out g1 (by omega)).mono ?_
      rw [H2.out]
      rintro e w2 ⟨rfl, hb2⟩
      go_wp2
      go_ret
      exact ⟨rfl, below_step hbw hb2⟩
  · have H1 : Hid (szR (szTris ks) left = -1) := szR_neg h1
    rw [szR_neg (by omega)]
    clear h1
    go_enter Tryz.func38, Tryz.ntmps38
    go_wp2_with fail
    refine (szKinds_any _ ks _ _ (HK1.out.alloc _) NK.out hl hl').mono ?_
    rw [H1.out]
    rintro e w1 ⟨rfl, hb1⟩
    go_wp2
    go_ret
    exact ⟨rfl, below_step ((Below.refl _ _).alloc (Nat.le_refl _) _) hb1⟩

theorem TrisAt.setOther {w : World} {b n cap : Nat} {l : List Tri} (h : TrisAt w (.slice (some ⟨b, 0, none⟩) n cap) l) (k o : Nat) (hp : b ≠ k) (v : Value) : TrisAt (w.setCell ⟨k, o, none⟩ v) (.slice (some ⟨b, 0, none⟩) n cap) l := by
  obtain ⟨a', cap', he, h1, h2, h3⟩ := h
  cases he
  refine ⟨_, _, rfl, h1, h2, fun i t ht => ?_⟩
  obtain ⟨b', off, ha, c0, c1, c2⟩ := h3 i t ht
  cases ha
  have hc : ∀ o', (w.setCell ⟨k, o, none⟩ v).cell? ⟨b, o', none⟩ = w.cell? ⟨b, o', none⟩ := fun o' => World.cell?_of_block (w := w) (Below.heap_setCell w ⟨k, o, none⟩ v b hp)
  exact ⟨_, _, rfl, by rw [hc]; exact c0, by rw [hc]; exact c1, by rw [hc]; exact c2⟩

theorem below_set {B : Nat} {a w : World} (h : Below B a w) (k o : Nat) (hk : B ≤ k) (v : Value) : Below B a (w.setCell ⟨k, o, none⟩ v) := h.setCell (p := ⟨k, o, none⟩) hk v

set_option maxHeartbeats 1600000 in
theorem toBase_any (vk vp : Value) (ks ps : List Tri) (w : World) (hk : TrisAt w vk ks) (hp : TrisAt w vp ps) (lk : ks.length ≤ 1048576) (lp : ps.length ≤ 1048576) :
    Calls Tryz.prog 43 #[.agg #[vk, vp]] w fun e w' => ∃ uk up, e = .returned (.agg #[uk, up]) ∧ TrisAt w' uk ks ∧ TrisAt w' up ps ∧ Below w.heap.size w w' := by
  have HK := hk; have HP := hp
  obtain ⟨ak, ck, rfl, -, -, -⟩ := hk
  obtain ⟨ap, cp, rfl, -, -, -⟩ := hp
  have HK1 : Hid (TrisAt w (.slice ak ks.length ck) ks) := HK
  have HP1 : Hid (TrisAt w (.slice ap ps.length cp) ps) := HP
  clear HK HP
  go_enter Tryz.func43, Tryz.ntmps43
  go_wp2_with fail
  refine (toKinds_any _ ks _ (((HK1.out.alloc _).alloc _).alloc _) lk).mono ?_
  rintro e w1 ⟨rfl, tk, hb1, hz1⟩
  have c01 : w1.cell? ⟨w.heap.size, 1, none⟩ = some (.slice ap ps.length cp) := cell_keep hb1 (Nat.le_refl _) (by simp [go_sem])
  have c10 : w1.cell? ⟨w.heap.size + 1, 0, none⟩ = some (.slice none 0 0) := cell_keep hb1 (Nat.le_refl _) (by simp [go_sem])
  have c11 : w1.cell? ⟨w.heap.size + 1, 1, none⟩ = some (.slice none 0 0) := cell_keep hb1 (Nat.le_refl _) (by simp [go_sem])
  have c20 : w1.cell? ⟨w.heap.size + 1 + 1, 0, none⟩ = some (.slice none 0 0) := cell_keep hb1 (Nat.le_refl _) (by simp [go_sem])
  have c21 : w1.cell? ⟨w.heap.size + 1 + 1, 1, none⟩ = some (.slice none 0 0) := cell_keep hb1 (Nat.le_refl _) (by simp [go_sem])
  have fz : ∀ k o, k < w.heap.size + 3 → w.heap.size ≤ k → w1.frozen? ⟨k, o, none⟩ = false := fun k o hk hk' => by
    rw [hb1.frozen (p := ⟨k, o, none⟩) (by simp; omega)]
    have : k = w.heap.size ∨ k = w.heap.size + 1 ∨ k = w.heap.size + 1 + 1 := by omega
    rcases this with rfl | rfl | rfl <;> simp [go_sem]
  have f10 := fz (w.heap.size + 1) 0 (by omega) (by omega)
  have f11 := fz (w.heap.size + 1) 1 (by omega) (by omega)
  have f20 := fz (w.heap.size + 1 + 1) 0 (by omega) (by omega)
  have f21 := fz (w.heap.size + 1 + 1) 1 (by omega) (by omega)
  clear fz
  have hbw : Below w.heap.size w w1 := below_step ((((Below.refl _ _).alloc (Nat.le_refl _) _).alloc (by simp) _).alloc (by simp; omega) _) hb1
  simp only [World.size_alloc] at tk hz1
  have hs1 : w.heap.size + 1 + 1 + 1 < w1.heap.size := hz1
  have HT : Hid (TrisAt w1 (.slice (some ⟨w.heap.size + 1 + 1 + 1, 0, none⟩) ks.length ks.length) ks) := tk
  have HB : Hid (Below w.heap.size w w1) := hbw
  clear tk hbw hb1 hz1
  simp only [World.size_alloc]
  go_wp2_with fail
  generalize hX : Value.slice (some ⟨w.heap.size + 1 + 1 + 1, 0, none⟩) ks.length ks.length = X
  have HX : Hid (Value.slice (some ⟨w.heap.size + 1 + 1 + 1, 0, none⟩) ks.length ks.length = X) := hX
  clear hX
  have hb1' : Below w.heap.size w (w1.setCell ⟨w.heap.size + 1 + 1, 0, none⟩ X) := HB.out.setCell (by simp; omega) _
  refine (toPoints_any _ ps _ (HP1.out.keep hb1') lp).mono ?_
  rintro e w2 ⟨rfl, tp, hb2, hz2⟩
  have hsz : (w1.setCell ⟨w.heap.size + 1 + 1, 0, none⟩ X).heap.size = w1.heap.size := by simp
  rw [hsz] at tp hz2 ⊢
  have keep2 : ∀ k o, k < w1.heap.size → k ≠ w.heap.size + 1 + 1 → w2.cell? ⟨k, o, none⟩ = w1.cell? ⟨k, o, none⟩ := fun k o hk hne => by
    rw [hb2.cell (p := ⟨k, o, none⟩) (by rw [hsz]; exact hk)]
    exact World.cell?_of_block (w := w1) (Below.heap_setCell w1 _ X k hne)
  have d10 := (keep2 (w.heap.size + 1) 0 (by omega) (by omega)).trans c10
  have d11 := (keep2 (w.heap.size + 1) 1 (by omega) (by omega)).trans c11
  have d20 : w2.cell? ⟨w.heap.size + 1 + 1, 0, none⟩ = some X := cell_keep hb2 (Nat.le_refl _) (by simp [go_sem, c20])
  have d21 : w2.cell? ⟨w.heap.size + 1 + 1, 1, none⟩ = some (.slice none 0 0) := cell_keep hb2 (Nat.le_refl _) (by simp [go_sem, c21])
  have g10 : w2.frozen? ⟨w.heap.size + 1, 0, none⟩ = false := by rw [hb2.frozen (p := ⟨w.heap.size + 1, 0, none⟩) (by rw [hsz]; show w.heap.size + 1 < _; omega)]; simp [f10]
  have g11 : w2.frozen? ⟨w.heap.size + 1, 1, none⟩ = false := by rw [hb2.frozen (p := ⟨w.heap.size + 1, 1, none⟩) (by rw [hsz]; show w.heap.size + 1 < _; omega)]; simp [f11]
  have g21 : w2.frozen? ⟨w.heap.size + 1 + 1, 1, none⟩ = false := by rw [hb2.frozen (p := ⟨w.heap.size + 1 + 1, 1, none⟩) (by rw [hsz]; show w.heap.size + 1 + 1 < _; omega)]; simp [f21]
  have tk2 : TrisAt w2 (.slice (some ⟨w.heap.size + 1 + 1 + 1, 0, none⟩) ks.length ks.length) ks := (HT.out.setOther (w.heap.size + 1 + 1) 0 (by omega) X).keep hb2
  have hbw2 : Below w.heap.size w w2 := below_step hb1' hb2
  have FIN : Hid (TrisAt (((w2.setCell ⟨w.heap.size + 1 + 1, 1, none⟩ (.slice (some ⟨w1.heap.size, 0, none⟩) ps.length ps.length)).setCell ⟨w.heap.size + 1, 0, none⟩ X).setCell ⟨w.heap.size + 1, 1, none⟩ (.slice (some ⟨w1.heap.size, 0, none⟩) ps.length ps.length)) (.slice (some ⟨w.heap.size + 1 + 1 + 1, 0, none⟩) ks.length ks.length) ks ∧
      TrisAt (((w2.setCell ⟨w.heap.size + 1 + 1, 1, none⟩ (.slice (some ⟨w1.heap.size, 0, none⟩) ps.length ps.length)).setCell ⟨w.heap.size + 1, 0, none⟩ X).setCell ⟨w.heap.size + 1, 1, none⟩ (.slice (some ⟨w1.heap.size, 0, none⟩) ps.length ps.length)) (.slice (some ⟨w1.heap.size, 0, none⟩) ps.length ps.length) ps ∧
      Below w.heap.size w (((w2.setCell ⟨w.heap.size + 1 + 1, 1, none⟩ (.slice (some ⟨w1.heap.size, 0, none⟩) ps.length ps.length)).setCell ⟨w.heap.size + 1, 0, none⟩ X).setCell ⟨w.heap.size + 1, 1, none⟩ (.slice (some ⟨w1.heap.size, 0, none⟩) ps.length ps.length))) :=
    ⟨((tk2.setOther _ _ (by omega) _).setOther _ _ (by omega) _).setOther _ _ (by omega) _, ((tp.setOther _ _ (by omega) _).setOther _ _ (by omega) _).setOther _ _ (by omega) _,
      below_set (below_set (below_set hbw2 _ _ (by omega) _) _ _ (by omega) _) _ _ (by omega) _⟩
  clear tk2 tp hb2 hb1' hbw2 keep2 c01 c10 c11 c20 c21 f10 f11 f20 f21 hz2 hsz
  obtain ⟨aX, lX, cX, hX⟩ : ∃ aX lX cX, X = .slice aX lX cX := ⟨_, _, _, HX.out.symm⟩
  subst hX
  go_wp2
  refine bodyPost_ret (v := .agg #[.slice aX lX cX, .slice (some ⟨w1.heap.size, 0, none⟩) ps.length ps.length]) (by simp [results, Tryz.results43, go_sem, *]) rfl ⟨_, _, rfl, ?_⟩
  have h := FIN.out
  rw [HX.out] at h
  exact h
end Go.Proofs.YthccipaobeapbabGreatDoor

/-
  Books in memory: fields, entries; their sizes.
-/
namespace Go.Proofs.YthccipaobeapbabGreatDoor
open Go.RowKit

/-- What is said of one thing. -/
structure Fld where
  what : Int
  num : Int
  v : ByteArray
/-- A flight of a book. -/
structure Ent where
  name : ByteArray
  fs : List Fld

def fldV (f : Fld) : Value := .agg #[.int .i64 f.what, .int .i64 f.num, .string f.v]
/-- A field's cells. -/
def FldAt (w : World) (b o : Nat) (f : Fld) : Prop := w.cell? ⟨b, o, none⟩ = some (.int .i64 f.what) ∧ w.cell? ⟨b, o + 1, none⟩ = some (.int .i64 f.num) ∧ w.cell? ⟨b, o + 2, none⟩ = some (.string f.v)
/-- v is a slice of these, in w. -/
def FldsAt (w : World) (v : Value) (l : List Fld) : Prop :=
  ∃ a cap, v = .slice a l.length cap ∧ l.length ≤ cap ∧ cap ≤ maxLen ∧ ∀ i f, l[i]? = some f → ∃ b off, a = some ⟨b, off, none⟩ ∧ FldAt w b (off + i * 3) f
/-- An entry's cells, and its fields. -/
def EntAt (w : World) (b o : Nat) (e : Ent) : Prop := ∃ fv, w.cell? ⟨b, o, none⟩ = some (.string e.name) ∧ w.cell? ⟨b, o + 1, none⟩ = some fv ∧ FldsAt w fv e.fs
def EntsAt (w : World) (v : Value) (l : List Ent) : Prop :=
  ∃ a cap, v = .slice a l.length cap ∧ l.length ≤ cap ∧ cap ≤ maxLen ∧ ∀ i e, l[i]? = some e → ∃ b off, a = some ⟨b, off, none⟩ ∧ EntAt w b (off + i * 2) e

theorem FldAt.keep {w w' : World} {b o B : Nat} {f : Fld} (h : FldAt w b o f) (hb : Below B w w') (hB : w.heap.size ≤ B) : FldAt w' b o f :=
  ⟨cell_keep hb hB h.1, cell_keep hb hB h.2.1, cell_keep hb hB h.2.2⟩
theorem FldsAt.keep {w w' : World} {v : Value} {l : List Fld} (h : FldsAt w v l) (hb : Below w.heap.size w w') : FldsAt w' v l := by
  obtain ⟨a, cap, rfl, h1, h2, h3⟩ := h
  refine ⟨a, cap, rfl, h1, h2, fun i t ht => ?_⟩
  obtain ⟨b, off, ha, hc⟩ := h3 i t ht
  exact ⟨b, off, ha, hc.keep hb (Nat.le_refl _)⟩
theorem EntAt.keep {w w' : World} {b o : Nat} {e : Ent} (h : EntAt w b o e) (hb : Below w.heap.size w w') : EntAt w' b o e := by
  obtain ⟨fv, h0, h1, h2⟩ := h
  exact ⟨fv, cell_keep hb (Nat.le_refl _) h0, cell_keep hb (Nat.le_refl _) h1, h2.keep hb⟩
theorem EntsAt.keep {w w' : World} {v : Value} {l : List Ent} (h : EntsAt w v l) (hb : Below w.heap.size w w') : EntsAt w' v l := by
  obtain ⟨a, cap, rfl, h1, h2, h3⟩ := h
  refine ⟨a, cap, rfl, h1, h2, fun i t ht => ?_⟩
  obtain ⟨b, off, ha, hc⟩ := h3 i t ht
  exact ⟨b, off, ha, hc.keep hb⟩

def fat (l : List Fld) (i : Nat) : Fld := l.getD i ⟨0, 0, ⟨#[]⟩⟩
theorem fat_get {l : List Fld} {i : Nat} (h : i < l.length) : l[i]? = some (fat l i) := by simp [fat, h]
def eat (l : List Ent) (i : Nat) : Ent := l.getD i ⟨⟨#[]⟩, []⟩
theorem eat_get {l : List Ent} {i : Nat} (h : i < l.length) : l[i]? = some (eat l i) := by simp [eat, h]

def FNames (l : List Fld) : Prop := ∀ f ∈ l, f.v.size ≤ maxLen
def ENames (l : List Ent) : Prop := ∀ e ∈ l, e.name.size ≤ maxLen ∧ FNames e.fs

/-- Sums over the first of a list. -/
def sumN {α : Type} (g : α → Nat) : List α → Nat
  | [] => 0
  | t :: r => g t + sumN g r
theorem sumN_append {α : Type} (g : α → Nat) (l r : List α) : sumN g (l ++ r) = sumN g l + sumN g r := by
  induction l with
  | nil => simp [sumN]
  | cons a l ih => simp [sumN, ih]; omega
theorem sumN_take_succ {α : Type} (g : α → Nat) (l : List α) (k : Nat) (x : α) (h : l[k]? = some x) : sumN g (l.take (k + 1)) = sumN g (l.take k) + g x := by
  obtain ⟨hk, rfl⟩ := List.getElem?_eq_some_iff.1 h
  rw [List.take_succ_eq_append_getElem hk, sumN_append]; simp [sumN]
theorem sumN_take_le {α : Type} (g : α → Nat) (l : List α) (k : Nat) : sumN g (l.take k) ≤ sumN g l := by
  conv => rhs; rw [← List.take_append_drop k l, sumN_append]
  omega
theorem sumN_mem {α : Type} (g : α → Nat) (l : List α) (x : α) (h : x ∈ l) : g x ≤ sumN g l := by
  induction l with
  | nil => cases h
  | cons a l ih =>
    rcases List.mem_cons.1 h with rfl | h
    · simp [sumN]
    · have := ih h; simp [sumN]; omega
def szFlds (l : List Fld) : Nat := l.length + sumN (fun f => f.v.size) l
def szEnt (e : Ent) : Nat := e.name.size + szFlds e.fs
def szEnts (l : List Ent) : Nat := l.length + sumN szEnt l
end Go.Proofs.YthccipaobeapbabGreatDoor

/-
  The law's own functions over fields: sizes, copies, comparisons.
-/
namespace Go.Proofs.YthccipaobeapbabGreatDoor
open Go.RowKit

set_option maxHeartbeats 400000 in
theorem szField_any (f : Fld) (left : Int) (w : World) (hs : f.v.size ≤ maxLen) (hl : 0 ≤ left) (hl' : left ≤ 1048576) :
    Calls Tryz.prog 151 #[.agg #[.int .i64 f.what, .int .i64 f.num, .string f.v], .int .i64 left] w fun e w' => e = .returned (.int .i64 (szR f.v.size left)) ∧ Below w.heap.size w w' := by
  unfold maxLen at hs
  by_cases h : left - (f.v.size : Int) < 0
  · rw [szR_neg (by omega)]
    go_enter Tryz.func151, Tryz.ntmps151
    go_wp2
    go_ret
    exact ⟨rfl, (Below.refl _ _).alloc (Nat.le_refl _) _⟩
  · rw [szR_pos (by omega)]
    go_enter Tryz.func151, Tryz.ntmps151
    go_wp2
    go_ret
    exact ⟨rfl, (Below.refl _ _).alloc (Nat.le_refl _) _⟩

set_option maxHeartbeats 400000 in
theorem toField_any (f : Fld) (w : World) :
    Calls Tryz.prog 153 #[.agg #[.int .i64 f.what, .int .i64 f.num, .string f.v]] w fun e w' => e = .returned (.agg #[.int .i64 f.what, .int .i64 f.num, .string f.v]) ∧ Below w.heap.size w w' := by
  go_enter Tryz.func153, Tryz.ntmps153
  go_wp2
  exact bodyPost_ret (v := .agg #[.int .i64 f.what, .int .i64 f.num, .string f.v]) (by simp [results, Tryz.results153, go_sem]) rfl ⟨rfl, (((Below.refl _ _).alloc (Nat.le_refl _) _).alloc (by simp) _).alloc (by simp; omega) _⟩

set_option maxHeartbeats 400000 in
theorem eqField_any (f : Fld) (w : World) :
    Calls Tryz.prog 150 #[.agg #[.int .i64 f.what, .int .i64 f.num, .string f.v], .agg #[.int .i64 f.what, .int .i64 f.num, .string f.v]] w fun e w' => e = .returned (.bool true) ∧ Below w.heap.size w w' := by
  go_enter Tryz.func150, Tryz.ntmps150
  go_wp2
  all_goals go_ret
  all_goals exact ⟨rfl, ((Below.refl _ _).alloc (Nat.le_refl _) _).alloc (by simp) _⟩

set_option maxHeartbeats 800000 in
theorem szFields_any (v : Value) (l : List Fld) (left : Int) (w : World) (hv : FldsAt w v l) (hs : FNames l) (hl : 0 ≤ left) (hl' : left ≤ 1048576) :
    Calls Tryz.prog 125 #[v, .int .i64 left] w fun e w' => e = .returned (.int .i64 (szR (szFlds l) left)) ∧ Below w.heap.size w w' := by
  obtain ⟨a, cap, rfl, hlc, hcm, hc⟩ := hv
  unfold maxLen at hcm
  by_cases hn : left - (l.length : Int) < 0
  · rw [szR_neg (by unfold szFlds; omega)]
    clear hc
    go_enter Tryz.func125, Tryz.ntmps125
    go_wp2
    go_ret
    exact ⟨rfl, Below.refl _ _⟩
  · have HC : Hid (∀ i f, l[i]? = some f → ∃ b off, a = some ⟨b, off, none⟩ ∧ FldAt w b (off + i * 3) f) := hc
    have HS : Hid (FNames l) := hs
    clear hc hs
    have HT' : Hid (∀ k, sumN (fun f : Fld => f.v.size) (l.take k) ≤ sumN (fun f => f.v.size) l) := fun k => sumN_take_le _ l k
    go_enter Tryz.func125, Tryz.ntmps125
    go_wp2
    go_loopw [1, 5] (fun lf i w' => ∃ k s : Nat, k ≤ l.length ∧ i = .int .i64 k ∧ Hid (sumN (fun f : Fld => f.v.size) (l.take k) = s) ∧ lf = .int .i64 (left - l.length - s) ∧ 0 ≤ left - l.length - s ∧ Below w.heap.size w w') (fun _ i _ => l.length - (intOf i).toNat)
    case atStart => exact ⟨0, 0, Nat.zero_le _, rfl, rfl, by simp, by simp; omega, Below.refl _ _⟩
    case round =>
      obtain ⟨k, sk, hk, rfl, HQ, rfl, hge, hb⟩ := hrel
      by_cases hlt : k < l.length
      · obtain ⟨b, off, rfl, hc⟩ := HC.out k _ (fat_get hlt)
        obtain ⟨d0, d1, d2⟩ := hc.keep hb (Nat.le_refl _)
        have HT : Hid (sumN (fun f : Fld => f.v.size) (l.take (k + 1)) = sk + (fat l k).v.size) := by
          show _ = _
          rw [sumN_take_succ _ l k _ (fat_get hlt), HQ.out]
        have hsk : (fat l k).v.size ≤ maxLen := HS.out _ (List.mem_of_getElem? (fat_get hlt))
        clear hc HC HS
        generalize fat l k = t at *
        go_wp2_with fail
        refine (szField_any t _ _ hsk (by omega) (by omega)).mono ?_
        rintro e w1 ⟨rfl, hb1⟩
        by_cases hneg : left - (l.length : Int) - (sk : Int) - (t.v.size : Int) < 0
        · rw [szR_neg (by omega)]
          go_wp2
          go_ret
          refine ⟨ret_int (szR_neg ?_).symm, below_step hb hb1⟩
          have h1 := HT.out; have h2 := HT'.out (k + 1)
          unfold szFlds; omega
        · rw [szR_pos (by omega)]
          have hge1 : 0 ≤ left - (l.length : Int) - (sk : Int) - (t.v.size : Int) := by omega
          go_wp2
          go_roundw
          case rel => exact ⟨k + 1, sk + t.v.size, by omega, by go_num, HT, by congr 1; omega, by omega, below_step hb hb1⟩
          case measure => simp [intOf]; omega
      · go_wp2
        go_ret
        refine ⟨ret_int ?_, hb⟩
        have h1 := HQ.out
        rw [List.take_of_length_le (by omega)] at h1
        rw [szR_pos (by unfold szFlds; omega)]
        unfold szFlds
        omega

set_option maxHeartbeats 800000 in
theorem eqFields_any (v v' : Value) (l : List Fld) (w : World) (hv : FldsAt w v l) (hv' : FldsAt w v' l) :
    Calls Tryz.prog 122 #[v, v'] w fun e w' => e = .returned (.bool true) ∧ Below w.heap.size w w' := by
  obtain ⟨a, cap, rfl, hlc, hcm, hc⟩ := hv
  obtain ⟨a', cap', rfl, hlc', hcm', hc'⟩ := hv'
  unfold maxLen at hcm hcm'
  have HC : Hid (∀ i f, l[i]? = some f → ∃ b off, a = some ⟨b, off, none⟩ ∧ FldAt w b (off + i * 3) f) := hc
  have HC' : Hid (∀ i f, l[i]? = some f → ∃ b off, a' = some ⟨b, off, none⟩ ∧ FldAt w b (off + i * 3) f) := hc'
  clear hc hc'
  go_enter Tryz.func122, Tryz.ntmps122
  go_wp2
  go_loopw [5] (fun i w' => ∃ k : Nat, k ≤ l.length ∧ i = .int .i64 k ∧ Below w.heap.size w w') (fun i _ => l.length - (intOf i).toNat)
  case atStart => exact ⟨0, Nat.zero_le _, rfl, Below.refl _ _⟩
  case round =>
    obtain ⟨k, hk, rfl, hb⟩ := hrel
    by_cases hlt : k < l.length
    · obtain ⟨b, off, rfl, hc⟩ := HC.out k _ (fat_get hlt)
      obtain ⟨b', off', rfl, hc'⟩ := HC'.out k _ (fat_get hlt)
      obtain ⟨d0, d1, d2⟩ := hc.keep hb (Nat.le_refl _)
      obtain ⟨d0', d1', d2'⟩ := hc'.keep hb (Nat.le_refl _)
      clear hc hc' HC HC'
      generalize fat l k = t at *
      have hk0 : (0 : Int) ≤ (k : Int) := by omega
      have hk1 : (k : Int) < (l.length : Int) := by omega
      go_wp2
      go_region_held3 (fun w' => w'.cell? ⟨b, off + k * 3, none⟩ = some (.int .i64 t.what) ∧ w'.cell? ⟨b, off + k * 3 + 1, none⟩ = some (.int .i64 t.num) ∧ w'.cell? ⟨b, off + k * 3 + 2, none⟩ = some (.string t.v) ∧
          w'.cell? ⟨b', off' + k * 3, none⟩ = some (.int .i64 t.what) ∧ w'.cell? ⟨b', off' + k * 3 + 1, none⟩ = some (.int .i64 t.num) ∧ w'.cell? ⟨b', off' + k * 3 + 2, none⟩ = some (.string t.v))
        (first | (simp [*, go_sem]; done) | (refine ⟨cell_keep hb1 (by simp) ?_, cell_keep hb1 (by simp) ?_, cell_keep hb1 (by simp) ?_, cell_keep hb1 (by simp) ?_, cell_keep hb1 (by simp) ?_, cell_keep hb1 (by simp) ?_⟩ <;> simp [*, go_sem]))
        (first | (go_at_call 150; refine (eqField_any t _).mono ?_; rintro e w1 ⟨rfl, hb1⟩))
      go_wp2
      exact ⟨⟨k + 1, by omega, by go_num, below_step hb.drew hb1⟩, by simp [intOf]; omega⟩
    · go_wp2
      go_ret
      exact ⟨rfl, hb⟩
end Go.Proofs.YthccipaobeapbabGreatDoor

/-
  A block that is filled row by row.
-/
namespace Go.Proofs.YthccipaobeapbabGreatDoor
open Go.RowKit

/-- The rows lie in block B, which has room for n of c cells each; nothing that was in w has turned. -/
structure FilledL (w wr : World) (B n c : Nat) (rows : List (List Value)) : Prop where
  below : Below w.heap.size w wr
  big : B < wr.heap.size
  old : w.heap.size ≤ B
  room : wr.there B 0 (n * c)
  wide : ∀ r ∈ rows, r.length = c
  has : ∀ i r, rows[i]? = some r → wr.rangeAt B (i * c) r

theorem FilledL.call {w wr w1 : World} {B n c : Nat} {rows : List (List Value)} (h : FilledL w wr B n c rows) (hb : Below wr.heap.size wr w1) : FilledL w w1 B n c rows :=
  ⟨below_step h.below hb, Nat.lt_of_lt_of_le h.big hb.size, h.old, there_keep h.room hb h.big, h.wide, fun i r hr => range_keep (h.has i r hr) hb h.big⟩
theorem rows_room {k n c j : Nat} (hk : k < n) (hj : j < c) : k * c + j < n * c :=
  Nat.lt_of_lt_of_le (Nat.add_lt_add_left hj _) (by rw [← Nat.succ_mul]; exact Nat.mul_le_mul_right c hk)
theorem FilledL.store {w wr : World} {B n c : Nat} {rows : List (List Value)} (h : FilledL w wr B n c rows) (hk : rows.length < n) {r : List Value} (hr : r.length = c) :
    FilledL w (wr.setCells B (rows.length * c) r) B n c (rows ++ [r]) := by
  have hthere : wr.there B (rows.length * c) r.length := fun j hj => by
    have := h.room (rows.length * c + j) (rows_room hk (hr ▸ hj))
    simpa using this
  refine ⟨h.below.trans (setCells_below _ h.old), ?_, h.old, World.there_setCells h.room _ _ _, fun x hx => ?_, fun i x hx => ?_⟩
  · exact Nat.lt_of_lt_of_le h.big (setCells_below (w := wr) (B := B) (o := rows.length * c) (vs := r) 0 (Nat.zero_le _)).size
  · rcases List.mem_append.1 hx with hx | hx
    · exact h.wide x hx
    · simp at hx; subst hx; exact hr
  · by_cases e : i < rows.length
    · rw [List.getElem?_append_left e] at hx
      refine World.rangeAt_setCells_apart (h.has i x hx) _ _ _ (.inr (.inl ?_))
      have h1 := h.wide x (List.mem_of_getElem? hx)
      have h2 : (i + 1) * c ≤ rows.length * c := Nat.mul_le_mul_right c e
      rw [Nat.succ_mul] at h2
      omega
    · rw [List.getElem?_append_right (by omega)] at hx
      have hi0 : i - rows.length = 0 := by
        have := (List.getElem?_eq_some_iff.1 hx).1
        simp at this; omega
      rw [hi0] at hx
      simp at hx; subst hx
      have e1 : i = rows.length := by omega
      subst e1
      exact World.rangeAt_setCells_same _ _ _ _ hthere
theorem FilledL.start (w : World) (C : Array Value) (T n c : Nat) (hC : C.size = n * c) : FilledL w (w.alloc (.cells C T)) w.heap.size n c [] :=
  ⟨(Below.refl _ _).alloc (Nat.le_refl _) _, by simp, Nat.le_refl _, made_there w C T _ hC, fun r hr => by simp at hr, fun i r hr => by simp at hr⟩
/-- A cell's place in the block: it can be written. -/
theorem FilledL.free {w wr : World} {B n c : Nat} {rows : List (List Value)} (h : FilledL w wr B n c rows) {k j : Nat} (hk : k < n) (hj : j < c) : (∃ v, wr.cell? ⟨B, k * c + j, none⟩ = some v) ∧ wr.frozen? ⟨B, k * c + j, none⟩ = false := by
  have := h.room (k * c + j) (rows_room hk hj)
  simpa [Option.isSome_iff_exists] using this
theorem FilledL.cell {w wr : World} {B n c : Nat} {rows : List (List Value)} (h : FilledL w wr B n c rows) {i j : Nat} {r : List Value} {v : Value} (hr : rows[i]? = some r) (hv : r[j]? = some v) : wr.cell? ⟨B, i * c + j, none⟩ = some v := h.has i r hr j v hv
end Go.Proofs.YthccipaobeapbabGreatDoor

/-
  Copies of lists of fields; entries: sizes, copies, comparisons.
-/
namespace Go.Proofs.YthccipaobeapbabGreatDoor
open Go.RowKit

def fldRow (f : Fld) : List Value := [.int .i64 f.what, .int .i64 f.num, .string f.v]
theorem FilledL.flds {w wr : World} {B n : Nat} {l : List Fld} (h : FilledL w wr B n 3 (l.map fldRow)) (hn : l.length = n) (hm : n ≤ maxLen) : FldsAt wr (.slice (some ⟨B, 0, none⟩) n n) l :=
  ⟨some ⟨B, 0, none⟩, n, by rw [hn], by omega, hm, fun i f hf => ⟨B, 0, rfl, by
    have hr : (l.map fldRow)[i]? = some (fldRow f) := by rw [List.getElem?_map, hf]; rfl
    refine ⟨?_, ?_, ?_⟩
    · simpa using h.cell hr (j := 0) (v := .int .i64 f.what) rfl
    · simpa using h.cell hr (j := 1) (v := .int .i64 f.num) rfl
    · simpa using h.cell hr (j := 2) (v := .string f.v) rfl⟩⟩

theorem infoField : (Tryz.prog.info? 85).map (fun i => (i.zero, i.size, i.bytes)) = some (some (.agg #[.int .i64 0, .int .i64 0, .string ByteArray.empty]), 3, 32) := by kernel_rfl
theorem infoEntry : (Tryz.prog.info? 83).map (fun i => (i.zero, i.size, i.bytes)) = some (some (.agg #[.string ByteArray.empty, .slice none 0 0]), 2, 40) := by kernel_rfl

set_option maxHeartbeats 800000 in
theorem toFields_any (v : Value) (l : List Fld) (w : World) (hv : FldsAt w v l) (hn : l.length ≤ 1048576) :
    Calls Tryz.prog 129 #[v] w fun e w' => e = .returned (.slice (some ⟨w.heap.size, 0, none⟩) l.length l.length) ∧ FilledL w w' w.heap.size l.length 3 (l.map fldRow) := by
  obtain ⟨a, cap, rfl, hlc, hcm, hc⟩ := hv
  unfold maxLen at hcm
  have HC : Hid (∀ i f, l[i]? = some f → ∃ b off, a = some ⟨b, off, none⟩ ∧ FldAt w b (off + i * 3) f) := hc
  clear hc
  obtain ⟨i0, hi, hz0, hz1, hz2⟩ := info_parts infoField
  have hmk : ∀ w : World, (Instr.makeSlice 81 (.int .i64 (l.length : Int)) (.int .i64 (l.length : Int))).run Tryz.prog w = .ok (.slice (some ⟨w.heap.size, 0, none⟩) l.length l.length) (w.alloc (.cells (madeCells (Value.agg #[.int .i64 0, .int .i64 0, .string ByteArray.empty]).cells (l.length * 3)) 85)) := fun w => by
    have h := run_make (P := Tryz.prog) w 81 85 i0 _ Tryz.underlying81 hi hz0 .i64 .i64 l.length l.length (by omega) (by omega) (by rw [hz2]; omega) (by omega)
    rw [hz1] at h
    simpa using h
  have HM : Hid ((madeCells (Value.agg #[.int .i64 0, .int .i64 0, .string ByteArray.empty]).cells (l.length * 3)).size = l.length * 3) := size_madeCells _ _
  generalize madeCells (Value.agg #[.int .i64 0, .int .i64 0, .string ByteArray.empty]).cells (l.length * 3) = C at hmk HM
  clear hi hz0 hz1 hz2
  go_enter Tryz.func129, Tryz.ntmps129
  go_wp2
  go_loopw [4] (fun i wr => ∃ k : Nat, k ≤ l.length ∧ i = .int .i64 k ∧ FilledL w wr w.heap.size l.length 3 ((l.take k).map fldRow)) (fun i _ => l.length - (intOf i).toNat)
  case atStart => exact ⟨0, Nat.zero_le _, rfl, by simpa using FilledL.start w C _ _ _ HM.out⟩
  case round =>
    obtain ⟨k, hk, rfl, hf⟩ := hrel
    by_cases hlt : k < l.length
    · obtain ⟨b, off, rfl, hc⟩ := HC.out k _ (fat_get hlt)
      obtain ⟨d0, d1, d2⟩ := hc.keep hf.below (Nat.le_refl _)
      have HK : Hid (((l.take k).map fldRow).length = k ∧ (l.take (k + 1)).map fldRow = (l.take k).map fldRow ++ [fldRow (fat l k)]) := ⟨by simp; omega, by
        rw [List.take_succ_eq_append_getElem hlt, List.map_append]
        have : l[k] = fat l k := by simp [fat, hlt]
        rw [this]; rfl⟩
      clear hc HC
      generalize fat l k = t at *
      have hk0 : (0 : Int) ≤ (k : Int) := by omega
      have hk1 : (k : Int) < (l.length : Int) := by omega
      go_wp2_with fail
      refine (toField_any t _).mono ?_
      rintro e w1 ⟨rfl, hb1⟩
      have hf1 := hf.call hb1
      obtain ⟨⟨v0, e0⟩, f0⟩ := hf1.free hlt (j := 0) (by omega)
      obtain ⟨⟨v1, e1⟩, f1⟩ := hf1.free hlt (j := 1) (by omega)
      obtain ⟨⟨v2, e2⟩, f2⟩ := hf1.free hlt (j := 2) (by omega)
      simp only [Nat.add_zero] at e0 f0
      go_wp2
      have hst := hf1.store (r := fldRow t) (by rw [HK.out.1]; exact hlt) rfl
      rw [HK.out.1, ← HK.out.2] at hst
      exact ⟨⟨k + 1, by omega, by go_num, hst⟩, by simp [intOf]; omega⟩
    · go_wp2
      go_ret
      obtain rfl : k = l.length := by omega
      rw [List.take_length] at hf
      exact ⟨rfl, hf⟩

set_option maxHeartbeats 800000 in
theorem szEntry_any (e : Ent) (fv : Value) (left : Int) (w : World) (hv : FldsAt w fv e.fs) (hn : e.name.size ≤ maxLen) (hs : FNames e.fs) (hl : 0 ≤ left) (hl' : left ≤ 1048576) :
    Calls Tryz.prog 80 #[.agg #[.string e.name, fv], .int .i64 left] w fun x w' => x = .returned (.int .i64 (szR (szEnt e) left)) ∧ Below w.heap.size w w' := by
  unfold maxLen at hn
  have HV : Hid (FldsAt w fv e.fs) := hv
  have HS : Hid (FNames e.fs) := hs
  obtain ⟨a, cap, rfl, -, -, -⟩ := hv
  have HZ : Hid (szEnt e = e.name.size + szFlds e.fs) := rfl
  clear hs
  by_cases h : left - (e.name.size : Int) < 0
  · rw [szR_neg (by rw [HZ.out]; omega)]
    go_enter Tryz.func80, Tryz.ntmps80
    go_wp2
    go_ret
    exact ⟨rfl, (Below.refl _ _).alloc (Nat.le_refl _) _⟩
  · have hge : 0 ≤ left - (e.name.size : Int) := by omega
    by_cases h2 : (szFlds e.fs : Int) ≤ left - (e.name.size : Int)
    · have H2 : Hid (szR (szFlds e.fs) (left - (e.name.size : Int)) = left - (e.name.size : Int) - szFlds e.fs) := szR_pos h2
      have hge2 : 0 ≤ left - (e.name.size : Int) - szFlds e.fs := by omega
      have HF : Hid (szR (szEnt e) left = left - (e.name.size : Int) - szFlds e.fs) := by
        show _ = _
        rw [szR_pos (by rw [HZ.out]; omega), HZ.out]; omega
      clear h2
      go_enter Tryz.func80, Tryz.ntmps80
      go_wp2_with fail
      refine (szFields_any _ e.fs _ _ (HV.out.keep ((Below.refl _ _).alloc (Nat.le_refl _) _)) HS.out hge (by omega)).mono ?_
      rw [H2.out]
      rintro x w1 ⟨rfl, hb1⟩
      generalize left - (e.name.size : Int) - szFlds e.fs = q at *
      go_wp2
      go_ret
      exact ⟨ret_int HF.out.symm, below_step ((Below.refl _ _).alloc (Nat.le_refl _) _) hb1⟩
    · have H2 : Hid (szR (szFlds e.fs) (left - (e.name.size : Int)) = -1) := szR_neg h2
      have HF : Hid (szR (szEnt e) left = -1) := szR_neg (by rw [HZ.out]; omega)
      clear h2
      go_enter Tryz.func80, Tryz.ntmps80
      go_wp2_with fail
      refine (szFields_any _ e.fs _ _ (HV.out.keep ((Below.refl _ _).alloc (Nat.le_refl _) _)) HS.out hge (by omega)).mono ?_
      rw [H2.out]
      rintro x w1 ⟨rfl, hb1⟩
      go_wp2
      go_ret
      exact ⟨ret_int HF.out.symm, below_step ((Below.refl _ _).alloc (Nat.le_refl _) _) hb1⟩

set_option maxHeartbeats 800000 in
theorem szEntries_any (v : Value) (l : List Ent) (left : Int) (w : World) (hv : EntsAt w v l) (hs : ENames l) (hl : 0 ≤ left) (hl' : left ≤ 1048576) :
    Calls Tryz.prog 39 #[v, .int .i64 left] w fun e w' => e = .returned (.int .i64 (szR (szEnts l) left)) ∧ Below w.heap.size w w' := by
  obtain ⟨a, cap, rfl, hlc, hcm, hc⟩ := hv
  unfold maxLen at hcm
  by_cases hn : left - (l.length : Int) < 0
  · rw [szR_neg (by unfold szEnts; omega)]
    clear hc
    go_enter Tryz.func39, Tryz.ntmps39
    go_wp2
    go_ret
    exact ⟨rfl, Below.refl _ _⟩
  · have HC : Hid (∀ i f, l[i]? = some f → ∃ b off, a = some ⟨b, off, none⟩ ∧ EntAt w b (off + i * 2) f) := hc
    have HS : Hid (ENames l) := hs
    clear hc hs
    have HT' : Hid (∀ k, sumN szEnt (l.take k) ≤ sumN szEnt l) := fun k => sumN_take_le _ l k
    go_enter Tryz.func39, Tryz.ntmps39
    go_wp2
    go_loopw [1, 5] (fun lf i w' => ∃ k s : Nat, k ≤ l.length ∧ i = .int .i64 k ∧ Hid (sumN szEnt (l.take k) = s) ∧ lf = .int .i64 (left - l.length - s) ∧ 0 ≤ left - l.length - s ∧ Below w.heap.size w w') (fun _ i _ => l.length - (intOf i).toNat)
    case atStart => exact ⟨0, 0, Nat.zero_le _, rfl, rfl, by simp, by simp; omega, Below.refl _ _⟩
    case round =>
      obtain ⟨k, sk, hk, rfl, HQ, rfl, hge, hb⟩ := hrel
      by_cases hlt : k < l.length
      · obtain ⟨b, off, rfl, hc⟩ := HC.out k _ (eat_get hlt)
        obtain ⟨fv, d0, d1, hfl⟩ := hc.keep hb
        have HT : Hid (sumN szEnt (l.take (k + 1)) = sk + szEnt (eat l k)) := by
          show _ = _
          rw [sumN_take_succ _ l k _ (eat_get hlt), HQ.out]
        have HSK : Hid ((eat l k).name.size ≤ maxLen ∧ FNames (eat l k).fs) := HS.out _ (List.mem_of_getElem? (eat_get hlt))
        have HFL : Hid (FldsAt wr fv (eat l k).fs) := hfl
        obtain ⟨fa, fc, rfl, -, -, -⟩ := hfl
        clear hc HC HS
        generalize eat l k = t at *
        go_wp2_with fail
        refine (szEntry_any t _ _ _ HFL.out HSK.out.1 HSK.out.2 (by omega) (by omega)).mono ?_
        rintro e w1 ⟨rfl, hb1⟩
        generalize szEnt t = st at *
        by_cases hneg : left - (l.length : Int) - (sk : Int) - (st : Int) < 0
        · rw [szR_neg (by omega)]
          go_wp2
          go_ret
          refine ⟨ret_int (szR_neg ?_).symm, below_step hb hb1⟩
          have h1 := HT.out; have h2 := HT'.out (k + 1)
          unfold szEnts; omega
        · rw [szR_pos (by omega)]
          have hge1 : 0 ≤ left - (l.length : Int) - (sk : Int) - (st : Int) := by omega
          go_wp2
          go_roundw
          case rel => exact ⟨k + 1, sk + st, by omega, by go_num, HT, by congr 1; omega, by omega, below_step hb hb1⟩
          case measure => simp [intOf]; omega
      · go_wp2
        go_ret
        refine ⟨ret_int ?_, hb⟩
        have h1 := HQ.out
        rw [List.take_of_length_le (by omega)] at h1
        rw [szR_pos (by unfold szEnts; omega)]
        unfold szEnts
        omega

set_option maxHeartbeats 800000 in
theorem eqEntry_any (e : Ent) (fv fv' : Value) (w : World) (hv : FldsAt w fv e.fs) (hv' : FldsAt w fv' e.fs) :
    Calls Tryz.prog 71 #[.agg #[.string e.name, fv], .agg #[.string e.name, fv']] w fun x w' => x = .returned (.bool true) ∧ Below w.heap.size w w' := by
  have HV : Hid (FldsAt w fv e.fs ∧ FldsAt w fv' e.fs) := ⟨hv, hv'⟩
  obtain ⟨a, cap, rfl, -, -, -⟩ := hv
  obtain ⟨a', cap', rfl, -, -, -⟩ := hv'
  have HB : Hid (∀ o o' : Obj, Below w.heap.size w ((w.alloc o).alloc o')) := fun o o' => ((Below.refl _ _).alloc (Nat.le_refl _) _).alloc (by simp) _
  go_enter Tryz.func71, Tryz.ntmps71
  go_wp2_with fail
  refine (eqFields_any _ _ e.fs _ (HV.out.1.keep (HB.out _ _)) (HV.out.2.keep (HB.out _ _))).mono ?_
  rintro x w1 ⟨rfl, hb1⟩
  go_wp2
  go_ret
  exact ⟨rfl, below_step (HB.out _ _) hb1⟩
end Go.Proofs.YthccipaobeapbabGreatDoor

/-
  Blocks of a call's own, one behind the other, that can be written; blocks filled with rows, wherever.
-/
namespace Go.Proofs.YthccipaobeapbabGreatDoor
open Go.RowKit

structure OwnAt (w wr : World) (bs : List (List Value)) : Prop where
  below : Below w.heap.size w wr
  big : w.heap.size + bs.length ≤ wr.heap.size
  has : ∀ i b, bs[i]? = some b → ∀ j v, b[j]? = some v → wr.cell? ⟨w.heap.size + i, j, none⟩ = some v ∧ wr.frozen? ⟨w.heap.size + i, j, none⟩ = false
theorem OwnAt.call {w wr w' : World} {bs : List (List Value)} (h : OwnAt w wr bs) (hb : Below wr.heap.size wr w') : OwnAt w w' bs :=
  ⟨below_step h.below hb, Nat.le_trans h.big hb.size, fun i b hi j v hj => by
    have hlt : w.heap.size + i < wr.heap.size := by
      have := (List.getElem?_eq_some_iff.1 hi).1
      have := h.big; omega
    rw [hb.cell (p := ⟨w.heap.size + i, j, none⟩) hlt, hb.frozen (p := ⟨w.heap.size + i, j, none⟩) hlt]
    exact h.has i b hi j v hj⟩
theorem OwnAt.start (w : World) : OwnAt w w [] := ⟨Below.refl _ _, Nat.le_refl _, fun i b hi => by simp at hi⟩
theorem OwnAt.push {w wr : World} {bs : List (List Value)} (h : OwnAt w wr bs) (he : wr.heap.size = w.heap.size + bs.length) (C : Array Value) (T : TypeId) : OwnAt w (wr.alloc (.cells C T)) (bs ++ [C.toList]) := by
  refine ⟨h.below.alloc (by omega) _, by simp; omega, fun i b hi j v hj => ?_⟩
  by_cases e : i < bs.length
  · rw [List.getElem?_append_left e] at hi
    have hh := h.has i b hi j v hj
    have hb : Below wr.heap.size wr (wr.alloc (.cells C T)) := (Below.refl _ _).alloc (Nat.le_refl _) _
    rw [hb.cell (p := ⟨w.heap.size + i, j, none⟩) (show w.heap.size + i < _ by omega), hb.frozen (p := ⟨w.heap.size + i, j, none⟩) (show w.heap.size + i < _ by omega)]
    exact hh
  · rw [List.getElem?_append_right (by omega)] at hi
    have hi0 : i - bs.length = 0 := by
      have := (List.getElem?_eq_some_iff.1 hi).1
      simp at this; omega
    rw [hi0] at hi
    simp at hi; subst hi
    have e1 : w.heap.size + i = wr.heap.size := by omega
    rw [e1, World.cell?_alloc_at (w := wr) C T wr.heap.size j rfl, World.frozen?_alloc_at (w := wr) C T wr.heap.size j rfl]
    have hj' : j < C.size := by
      have := (List.getElem?_eq_some_iff.1 hj).1
      simpa using this
    refine ⟨by simpa using hj, ?_⟩
    simp
theorem OwnAt.set {w wr : World} {bs : List (List Value)} (h : OwnAt w wr bs) {i j : Nat} {b : List Value} (hi : bs[i]? = some b) (hj : j < b.length) (x : Value) : OwnAt w (wr.setCell ⟨w.heap.size + i, j, none⟩ x) (bs.set i (b.set j x)) := by
  have hil : i < bs.length := (List.getElem?_eq_some_iff.1 hi).1
  refine ⟨h.below.setCell (p := ⟨w.heap.size + i, j, none⟩) (by simp) _, by simp; have := h.big; omega, fun i' b' hi' j' v hj' => ?_⟩
  by_cases e : i' = i
  · subst e
    rw [List.getElem?_set_self hil] at hi'
    cases hi'
    by_cases ej : j' = j
    · subst ej
      rw [List.getElem?_set_self hj] at hj'
      cases hj'
      have hh := h.has i' b hi j' (b[j']) (by simp [hj])
      exact ⟨by simp [go_sem, hh.1], by simp [go_sem, hh.2]⟩
    · rw [List.getElem?_set_ne (Ne.symm ej)] at hj'
      have hh := h.has i' b hi j' v hj'
      refine ⟨?_, by simpa [go_sem] using hh.2⟩
      exact (World.cell?_setCell_other wr ⟨w.heap.size + i', j, none⟩ ⟨w.heap.size + i', j', none⟩ x (by simp <;> omega)).trans hh.1
  · rw [List.getElem?_set_ne (Ne.symm e)] at hi'
    have hh := h.has i' b' hi' j' v hj'
    refine ⟨?_, by simpa [go_sem] using hh.2⟩
    rw [World.cell?_of_block (w := wr) (Below.heap_setCell wr _ x _ (by simp; omega))]
    exact hh.1

/-- The rows lie in block B, and can be written. -/
structure HeldL (wr : World) (B n c : Nat) (rows : List (List Value)) : Prop where
  big : B < wr.heap.size
  room : wr.there B 0 (n * c)
  wide : ∀ r ∈ rows, r.length = c
  has : ∀ i r, rows[i]? = some r → wr.rangeAt B (i * c) r
theorem FilledL.held {w wr : World} {B n c : Nat} {rows : List (List Value)} (h : FilledL w wr B n c rows) : HeldL wr B n c rows := ⟨h.big, h.room, h.wide, h.has⟩
theorem HeldL.keep {wr w1 : World} {B n c : Nat} {rows : List (List Value)} (h : HeldL wr B n c rows) (hb : Below wr.heap.size wr w1) : HeldL w1 B n c rows :=
  ⟨Nat.lt_of_lt_of_le h.big hb.size, there_keep h.room hb h.big, h.wide, fun i r hr => range_keep (h.has i r hr) hb h.big⟩
theorem HeldL.other {wr : World} {B n c : Nat} {rows : List (List Value)} (h : HeldL wr B n c rows) {k o : Nat} (hk : k ≠ B) (x : Value) : HeldL (wr.setCell ⟨k, o, none⟩ x) B n c rows := by
  have hc : ∀ o', (wr.setCell ⟨k, o, none⟩ x).cell? ⟨B, o', none⟩ = wr.cell? ⟨B, o', none⟩ := fun o' => World.cell?_of_block (w := wr) (Below.heap_setCell wr ⟨k, o, none⟩ x B (Ne.symm hk))
  refine ⟨by simpa using h.big, fun j hj => ?_, h.wide, fun i r hr j v hv => ?_⟩
  · have := h.room j hj
    rw [hc, World.frozen?_setCell]; exact this
  · rw [hc]; exact h.has i r hr j v hv
theorem HeldL.cell {wr : World} {B n c : Nat} {rows : List (List Value)} (h : HeldL wr B n c rows) {i j : Nat} {r : List Value} {v : Value} (hr : rows[i]? = some r) (hv : r[j]? = some v) : wr.cell? ⟨B, i * c + j, none⟩ = some v := h.has i r hr j v hv
theorem HeldL.free {wr : World} {B n c : Nat} {rows : List (List Value)} (h : HeldL wr B n c rows) {k j : Nat} (hk : k < n) (hj : j < c) : (∃ v, wr.cell? ⟨B, k * c + j, none⟩ = some v) ∧ wr.frozen? ⟨B, k * c + j, none⟩ = false := by
  have := h.room (k * c + j) (rows_room hk hj)
  simpa [Option.isSome_iff_exists] using this

theorem Filled.held {w wr : World} {B n : Nat} {l : List Tri} (h : Filled w wr B n l l.length) : HeldL wr B n 3 (l.map triRow) :=
  ⟨h.big, h.room, fun r hr => by obtain ⟨t, _, rfl⟩ := List.mem_map.1 hr; rfl, fun i r hr => by
    rw [List.getElem?_map] at hr
    cases ht : l[i]? with
    | none => rw [ht] at hr; cases hr
    | some t =>
      rw [ht] at hr; cases hr
      exact h.has i t (List.getElem?_eq_some_iff.1 ht).1 ht⟩
/-- A slice of kinds or points in a block of its own, from lo on. -/
def TrisOwn (lo : Nat) (w : World) (v : Value) (l : List Tri) : Prop := ∃ b, lo ≤ b ∧ v = .slice (some ⟨b, 0, none⟩) l.length l.length ∧ HeldL w b l.length 3 (l.map triRow)
theorem HeldL.tris {w : World} {b n : Nat} {l : List Tri} (h : HeldL w b n 3 (l.map triRow)) (hn : n = l.length) (cap : Nat) (hc : n ≤ cap) (hm : cap ≤ maxLen) : TrisAt w (.slice (some ⟨b, 0, none⟩) n cap) l :=
  ⟨_, cap, by rw [hn], by omega, hm, fun i t ht => ⟨b, 0, rfl, by
    have hr : (l.map triRow)[i]? = some (triRow t) := by rw [List.getElem?_map, ht]; rfl
    refine ⟨?_, ?_, ?_⟩
    · simpa using h.cell hr (j := 0) (v := .string t.s) rfl
    · simpa using h.cell hr (j := 1) (v := .int .i64 t.x) rfl
    · simpa using h.cell hr (j := 2) (v := .int .i64 t.y) rfl⟩⟩
theorem TrisOwn.at {lo : Nat} {w : World} {v : Value} {l : List Tri} (h : TrisOwn lo w v l) (hm : l.length ≤ 1048576) : TrisAt w v l := by
  obtain ⟨b, _, rfl, hh⟩ := h
  exact hh.tris rfl _ (Nat.le_refl _) (by unfold maxLen; omega)
theorem TrisOwn.keep {lo : Nat} {w w' : World} {v : Value} {l : List Tri} (h : TrisOwn lo w v l) (hb : Below w.heap.size w w') : TrisOwn lo w' v l := by
  obtain ⟨b, hl, hv, hh⟩ := h
  exact ⟨b, hl, hv, hh.keep hb⟩
theorem TrisOwn.mono {lo lo' : Nat} {w : World} {v : Value} {l : List Tri} (h : TrisOwn lo w v l) (hl : lo' ≤ lo) : TrisOwn lo' w v l := by
  obtain ⟨b, hb, hv, hh⟩ := h
  exact ⟨b, by omega, hv, hh⟩
theorem TrisOwn.other {lo : Nat} {w : World} {v : Value} {l : List Tri} (h : TrisOwn lo w v l) {k o : Nat} (hk : k < lo) (x : Value) : TrisOwn lo (w.setCell ⟨k, o, none⟩ x) v l := by
  obtain ⟨b, hl, hv, hh⟩ := h
  exact ⟨b, hl, hv, hh.other (by omega) x⟩
theorem Filled.ownT {w wr : World} {lo B : Nat} {l : List Tri} (h : Filled w wr B l.length l l.length) (hl : lo ≤ B) : TrisOwn lo wr (.slice (some ⟨B, 0, none⟩) l.length l.length) l := ⟨_, hl, rfl, h.held⟩

set_option maxHeartbeats 1600000 in
theorem toBase_own (vk vp : Value) (ks ps : List Tri) (w : World) (hk : TrisAt w vk ks) (hp : TrisAt w vp ps) (lk : ks.length ≤ 1048576) (lp : ps.length ≤ 1048576) :
    Calls Tryz.prog 43 #[.agg #[vk, vp]] w fun e w' => ∃ uk up, e = .returned (.agg #[uk, up]) ∧ TrisOwn (w.heap.size + 3) w' uk ks ∧ TrisOwn (w.heap.size + 3) w' up ps ∧ Below w.heap.size w w' := by
  have HK := hk; have HP := hp
  obtain ⟨ak, ck, rfl, -, -, -⟩ := hk
  obtain ⟨ap, cp, rfl, -, -, -⟩ := hp
  have HK1 : Hid (TrisAt w (.slice ak ks.length ck) ks) := HK
  have HP1 : Hid (TrisAt w (.slice ap ps.length cp) ps) := HP
  clear HK HP
  have HO0 : Hid (OwnAt w (((w.alloc (.cells #[.slice ak ks.length ck, .slice ap ps.length cp] 40)).alloc (.cells #[.slice none 0 0, .slice none 0 0] 25)).alloc (.cells #[.slice none 0 0, .slice none 0 0] 25)) [[.slice ak ks.length ck, .slice ap ps.length cp], [.slice none 0 0, .slice none 0 0], [.slice none 0 0, .slice none 0 0]]) :=
    (((OwnAt.start w).push rfl _ _).push (by simp) _ _).push (by simp) _ _
  go_enter Tryz.func43, Tryz.ntmps43
  go_wp2_with fail
  refine (toKinds_own _ ks _ (HK1.out.keep HO0.out.below) lk).mono ?_
  rintro e w1 ⟨rfl, hf1⟩
  have HO1 : Hid (OwnAt w w1 _) := HO0.out.call hf1.below
  simp only [World.size_alloc] at hf1 ⊢
  have HT1 : Hid (TrisOwn (w.heap.size + 3) w1 _ ks) := hf1.ownT (by omega)
  generalize Value.slice (some ⟨w.heap.size + 1 + 1 + 1, 0, none⟩) ks.length ks.length = uk at HT1 ⊢
  clear HO0 hf1
  have HU : Hid (∃ a n c, uk = .slice a n c) := by obtain ⟨b, _, e, _⟩ := HT1.out; exact ⟨_, _, _, e⟩
  obtain ⟨xa, xn, xc, hux⟩ := HU.out
  subst hux
  clear HU
  have HO2 : Hid (OwnAt w (w1.setCell ⟨w.heap.size + 1 + 1, 0, none⟩ (.slice xa xn xc)) [[.slice ak ks.length ck, .slice ap ps.length cp], [.slice none 0 0, .slice none 0 0], [.slice xa xn xc, .slice none 0 0]]) := HO1.out.set (i := 2) (j := 0) rfl (by simp) _
  have HT2 : Hid (TrisOwn (w.heap.size + 3) (w1.setCell ⟨w.heap.size + 1 + 1, 0, none⟩ (.slice xa xn xc)) (.slice xa xn xc) ks) := HT1.out.other (by omega) _
  have d0 : w1.cell? ⟨w.heap.size, 0, none⟩ = some (.slice ak ks.length ck) := (HO1.out.has 0 _ rfl 0 _ rfl).1
  have d1 : w1.cell? ⟨w.heap.size, 1, none⟩ = some (.slice ap ps.length cp) := (HO1.out.has 0 _ rfl 1 _ rfl).1
  have o0 : w1.cell? ⟨w.heap.size + 1 + 1, 0, none⟩ = some (.slice none 0 0) := (HO1.out.has 2 _ rfl 0 _ rfl).1
  have o1 : w1.cell? ⟨w.heap.size + 1 + 1, 1, none⟩ = some (.slice none 0 0) := (HO1.out.has 2 _ rfl 1 _ rfl).1
  have fo0 : w1.frozen? ⟨w.heap.size + 1 + 1, 0, none⟩ = false := (HO1.out.has 2 _ rfl 0 _ rfl).2
  go_wp2_with fail
  refine (toPoints_own _ ps _ (HP1.out.keep HO2.out.below) lp).mono ?_
  rintro e w2 ⟨rfl, hf2⟩
  have HO3 : Hid (OwnAt w w2 _) := HO2.out.call hf2.below
  have HT3 : Hid (TrisOwn (w.heap.size + 3) w2 _ ks) := HT2.out.keep hf2.below
  have hlo : w.heap.size + 3 ≤ (w1.setCell ⟨w.heap.size + 1 + 1, 0, none⟩ (.slice xa xn xc)).heap.size := HO2.out.big
  have HT4 : Hid (TrisOwn (w.heap.size + 3) w2 _ ps) := hf2.ownT hlo
  generalize (w1.setCell ⟨w.heap.size + 1 + 1, 0, none⟩ (.slice xa xn xc)).heap.size = B2 at *
  clear hf2 HO2 HT2 HO1 HT1 d0 d1 o0 o1 fo0 hlo
  have q0 : w2.cell? ⟨w.heap.size + 1, 0, none⟩ = some (.slice none 0 0) := (HO3.out.has 1 _ rfl 0 _ rfl).1
  have q1 : w2.cell? ⟨w.heap.size + 1, 1, none⟩ = some (.slice none 0 0) := (HO3.out.has 1 _ rfl 1 _ rfl).1
  have p0 : w2.cell? ⟨w.heap.size + 1 + 1, 0, none⟩ = some (.slice xa xn xc) := (HO3.out.has 2 _ rfl 0 _ rfl).1
  have p1 : w2.cell? ⟨w.heap.size + 1 + 1, 1, none⟩ = some (.slice none 0 0) := (HO3.out.has 2 _ rfl 1 _ rfl).1
  have g0 : w2.frozen? ⟨w.heap.size + 1, 0, none⟩ = false := (HO3.out.has 1 _ rfl 0 _ rfl).2
  have g1 : w2.frozen? ⟨w.heap.size + 1, 1, none⟩ = false := (HO3.out.has 1 _ rfl 1 _ rfl).2
  have g2 : w2.frozen? ⟨w.heap.size + 1 + 1, 1, none⟩ = false := (HO3.out.has 2 _ rfl 1 _ rfl).2
  go_wp2
  refine bodyPost_ret (v := .agg #[.slice xa xn xc, .slice (some ⟨B2, 0, none⟩) ps.length ps.length]) (by simp [results, Tryz.results43, go_sem, *]) rfl ⟨_, _, rfl, ((HT3.out.other (by omega) _).other (by omega) _).other (by omega) _, ((HT4.out.other (by omega) _).other (by omega) _).other (by omega) _, ?_⟩
  exact below_set (below_set (below_set HO3.out.below _ _ (by omega) _) _ _ (by omega) _) _ _ (by omega) _
end Go.Proofs.YthccipaobeapbabGreatDoor
