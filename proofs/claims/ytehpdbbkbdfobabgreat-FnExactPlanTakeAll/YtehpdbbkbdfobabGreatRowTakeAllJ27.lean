/-
  For the proof of takeall_holds: part 27 (Mark4, Mark5, Bxs, All0).
-/
import Derived.Test.YtehpdbbkbdfobabGreatRowTakeAllJ26
/-
  The law's marks over a book of one's own: written, and read back.
-/
namespace Go.Proofs.YtehpdbbkbdfobabGreat
open Go.RowKit
attribute [local go_sem] Later.cell Later.frozen
set_option linter.unusedSimpArgs false
set_option linter.unusedVariables false

/-- A row that can be written, nil if there is nothing in it. -/
def Roo (w : World) (v : Value) (n c : Nat) : Prop := (v = .slice none 0 0 ∧ n = 0) ∨ ∃ b cap, v = .slice (some ⟨b, 0, none⟩) n cap ∧ b < w.heap.size ∧ w.there b 0 (n * c)
/-- A row that holds its marks. -/
def RowM (w : World) (v : Value) (n c : Nat) (f : Nat → Value) : Prop := (v = .slice none 0 0 ∧ n = 0) ∨ ∃ b cap, v = .slice (some ⟨b, 0, none⟩) n cap ∧ b < w.heap.size ∧ ∀ q, q < n * c → w.cell? ⟨b, q, none⟩ = some (f q)
theorem Roo.of {w : World} {base : Nat} {e : TypeId} {size : Nat} {v : Value} {n : Nat} {xs : List Value} (h : w.ownsRow base e size v n xs) : Roo w v n size := by
  rcases h.2 with h2 | ⟨g, cap, cur, rfl, hb, hc, h1, h2, h3, h4⟩
  · exact .inl h2
  · refine .inr ⟨g, cap, rfl, (Array.getElem?_eq_some_iff.1 hc).1, fun q hq => ?_⟩
    have hq' : q < cur.size := by rw [h3]; exact Nat.lt_of_lt_of_le hq (Nat.mul_le_mul_right _ h1)
    simp [World.cell?, World.frozen?, hc, hq']
theorem Roo.far {w w' : World} {v : Value} {n c : Nat} {r : Option Nat} (h : Roo w v n c) (hg : w.grownBy w' r) (hr : ∀ k, v.ownBlock = some k → some k ≠ r) : Roo w' v n c := by
  rcases h with h | ⟨b, cap, rfl, hb, ht⟩
  · exact .inl h
  · exact .inr ⟨b, cap, rfl, Nat.lt_of_lt_of_le hb hg.size, there_same ht (hg.block b hb (hr b rfl))⟩
theorem RowM.far {w w' : World} {v : Value} {n c : Nat} {f : Nat → Value} {r : Option Nat} (h : RowM w v n c f) (hg : w.grownBy w' r) (hr : ∀ k, v.ownBlock = some k → some k ≠ r) : RowM w' v n c f := by
  rcases h with h | ⟨b, cap, rfl, hb, ht⟩
  · exact .inl h
  · exact .inr ⟨b, cap, rfl, Nat.lt_of_lt_of_le hb hg.size, fun q hq => (World.cell?_of_block (w := w) (hg.block b hb (hr b rfl))).trans (ht q hq)⟩
theorem RowM.keep {w w' : World} {v : Value} {n c : Nat} {f : Nat → Value} (h : RowM w v n c f) (hb : Below w.heap.size w w') : RowM w' v n c f := h.far (below_grown hb none) (fun k _ e => by cases e)
theorem Roo.keep {w w' : World} {v : Value} {n c : Nat} (h : Roo w v n c) (hb : Below w.heap.size w w') : Roo w' v n c := h.far (below_grown hb none) (fun k _ e => by cases e)

theorem markKindNil_any (k : Nat) (w : World) : Calls Tryz.prog 85 #[.slice none 0 0, .int .i64 k] w fun e w' => e = .returned (.int .i64 k) ∧ w' = w := by
  go_enter Tryz.func85, Tryz.ntmps85
  go_wp2
  go_loopw [1, 5] (fun kk i wr => i = .int .i64 0 ∧ kk = .int .i64 k ∧ wr = w) (fun _ _ _ => 0)
  case atStart => exact ⟨rfl, rfl, rfl⟩
  case round =>
    obtain ⟨rfl, rfl, rfl⟩ := hrel
    go_wp2
    go_ret
    exact ⟨rfl, rfl⟩
theorem heldKindNil_any (k : Nat) (w : World) : Calls Tryz.prog 88 #[.slice none 0 0, .int .i64 k] w fun e w' => e = .returned (.int .i64 k) ∧ w' = w := by
  go_enter Tryz.func88, Tryz.ntmps88
  go_wp2
  go_loopw [1, 5] (fun kk i wr => i = .int .i64 0 ∧ kk = .int .i64 k ∧ wr = w) (fun _ _ _ => 0)
  case atStart => exact ⟨rfl, rfl, rfl⟩
  case round =>
    obtain ⟨rfl, rfl, rfl⟩ := hrel
    go_wp2
    go_ret
    exact ⟨rfl, rfl⟩
theorem markKindG_any (v : Value) (n k : Nat) (w : World) (h : Roo w v n 3) (hn : n ≤ 1048576) (hk : k ≤ 1000000000) :
    Calls Tryz.prog 85 #[v, .int .i64 k] w fun e w' => e = .returned (.int .i64 ((k + n * 3 : Nat) : Int)) ∧ RowM w' v n 3 (mkV 3 patKind k) ∧ w.grownBy w' v.ownBlock := by
  rcases h with ⟨rfl, rfl⟩ | ⟨b, cap, rfl, hb, ht⟩
  · refine (markKindNil_any k w).mono ?_
    rintro e w' ⟨rfl, rfl⟩
    exact ⟨by simp, .inl ⟨rfl, rfl⟩, below_grown (Below.refl _ _) _⟩
  · refine (markKinds_any b n cap k w hb ht hn hk).mono ?_
    rintro e w' ⟨rfl, hM⟩
    exact ⟨rfl, .inr ⟨b, cap, rfl, Nat.lt_of_lt_of_le hb hM.grown.size, fun q hq => hM.has q hq⟩, hM.grown⟩
theorem heldKindG_any (v : Value) (n k : Nat) (w : World) (h : RowM w v n 3 (mkV 3 patKind k)) (hn : n ≤ 1048576) (hk : k ≤ 1000000000) :
    Calls Tryz.prog 88 #[v, .int .i64 k] w fun e w' => e = .returned (.int .i64 ((k + n * 3 : Nat) : Int)) ∧ Below w.heap.size w w' := by
  rcases h with ⟨rfl, rfl⟩ | ⟨b, cap, rfl, hb, ht⟩
  · refine (heldKindNil_any k w).mono ?_
    rintro e w' ⟨rfl, rfl⟩
    exact ⟨by simp, Below.refl _ _⟩
  · exact heldKinds_any b n cap k w ht hn hk

theorem markPointNil_any (k : Nat) (w : World) : Calls Tryz.prog 86 #[.slice none 0 0, .int .i64 k] w fun e w' => e = .returned (.int .i64 k) ∧ w' = w := by
  go_enter Tryz.func86, Tryz.ntmps86
  go_wp2
  go_loopw [1, 5] (fun kk i wr => i = .int .i64 0 ∧ kk = .int .i64 k ∧ wr = w) (fun _ _ _ => 0)
  case atStart => exact ⟨rfl, rfl, rfl⟩
  case round =>
    obtain ⟨rfl, rfl, rfl⟩ := hrel
    go_wp2
    go_ret
    exact ⟨rfl, rfl⟩
theorem heldPointNil_any (k : Nat) (w : World) : Calls Tryz.prog 89 #[.slice none 0 0, .int .i64 k] w fun e w' => e = .returned (.int .i64 k) ∧ w' = w := by
  go_enter Tryz.func89, Tryz.ntmps89
  go_wp2
  go_loopw [1, 5] (fun kk i wr => i = .int .i64 0 ∧ kk = .int .i64 k ∧ wr = w) (fun _ _ _ => 0)
  case atStart => exact ⟨rfl, rfl, rfl⟩
  case round =>
    obtain ⟨rfl, rfl, rfl⟩ := hrel
    go_wp2
    go_ret
    exact ⟨rfl, rfl⟩
theorem markPointG_any (v : Value) (n k : Nat) (w : World) (h : Roo w v n 3) (hn : n ≤ 1048576) (hk : k ≤ 1000000000) :
    Calls Tryz.prog 86 #[v, .int .i64 k] w fun e w' => e = .returned (.int .i64 ((k + n * 3 : Nat) : Int)) ∧ RowM w' v n 3 (mkV 3 patPoint k) ∧ w.grownBy w' v.ownBlock := by
  rcases h with ⟨rfl, rfl⟩ | ⟨b, cap, rfl, hb, ht⟩
  · refine (markPointNil_any k w).mono ?_
    rintro e w' ⟨rfl, rfl⟩
    exact ⟨by simp, .inl ⟨rfl, rfl⟩, below_grown (Below.refl _ _) _⟩
  · refine (markPoints_any b n cap k w hb ht hn hk).mono ?_
    rintro e w' ⟨rfl, hM⟩
    exact ⟨rfl, .inr ⟨b, cap, rfl, Nat.lt_of_lt_of_le hb hM.grown.size, fun q hq => hM.has q hq⟩, hM.grown⟩
theorem heldPointG_any (v : Value) (n k : Nat) (w : World) (h : RowM w v n 3 (mkV 3 patPoint k)) (hn : n ≤ 1048576) (hk : k ≤ 1000000000) :
    Calls Tryz.prog 89 #[v, .int .i64 k] w fun e w' => e = .returned (.int .i64 ((k + n * 3 : Nat) : Int)) ∧ Below w.heap.size w w' := by
  rcases h with ⟨rfl, rfl⟩ | ⟨b, cap, rfl, hb, ht⟩
  · refine (heldPointNil_any k w).mono ?_
    rintro e w' ⟨rfl, rfl⟩
    exact ⟨by simp, Below.refl _ _⟩
  · exact heldPoints_any b n cap k w ht hn hk

theorem markFieldNil_any (k : Nat) (w : World) : Calls Tryz.prog 87 #[.slice none 0 0, .int .i64 k] w fun e w' => e = .returned (.int .i64 k) ∧ w' = w := by
  go_enter Tryz.func87, Tryz.ntmps87
  go_wp2
  go_loopw [1, 5] (fun kk i wr => i = .int .i64 0 ∧ kk = .int .i64 k ∧ wr = w) (fun _ _ _ => 0)
  case atStart => exact ⟨rfl, rfl, rfl⟩
  case round =>
    obtain ⟨rfl, rfl, rfl⟩ := hrel
    go_wp2
    go_ret
    exact ⟨rfl, rfl⟩
theorem heldFieldNil_any (k : Nat) (w : World) : Calls Tryz.prog 90 #[.slice none 0 0, .int .i64 k] w fun e w' => e = .returned (.int .i64 k) ∧ w' = w := by
  go_enter Tryz.func90, Tryz.ntmps90
  go_wp2
  go_loopw [1, 5] (fun kk i wr => i = .int .i64 0 ∧ kk = .int .i64 k ∧ wr = w) (fun _ _ _ => 0)
  case atStart => exact ⟨rfl, rfl, rfl⟩
  case round =>
    obtain ⟨rfl, rfl, rfl⟩ := hrel
    go_wp2
    go_ret
    exact ⟨rfl, rfl⟩
theorem markFieldG_any (v : Value) (n k : Nat) (w : World) (h : Roo w v n 3) (hn : n ≤ 1048576) (hk : k ≤ 1000000000) :
    Calls Tryz.prog 87 #[v, .int .i64 k] w fun e w' => e = .returned (.int .i64 ((k + n * 3 : Nat) : Int)) ∧ RowM w' v n 3 (mkV 3 patField k) ∧ w.grownBy w' v.ownBlock := by
  rcases h with ⟨rfl, rfl⟩ | ⟨b, cap, rfl, hb, ht⟩
  · refine (markFieldNil_any k w).mono ?_
    rintro e w' ⟨rfl, rfl⟩
    exact ⟨by simp, .inl ⟨rfl, rfl⟩, below_grown (Below.refl _ _) _⟩
  · refine (markFields_any b n cap k w hb ht hn hk).mono ?_
    rintro e w' ⟨rfl, hM⟩
    exact ⟨rfl, .inr ⟨b, cap, rfl, Nat.lt_of_lt_of_le hb hM.grown.size, fun q hq => hM.has q hq⟩, hM.grown⟩
theorem heldFieldG_any (v : Value) (n k : Nat) (w : World) (h : RowM w v n 3 (mkV 3 patField k)) (hn : n ≤ 1048576) (hk : k ≤ 1000000000) :
    Calls Tryz.prog 90 #[v, .int .i64 k] w fun e w' => e = .returned (.int .i64 ((k + n * 3 : Nat) : Int)) ∧ Below w.heap.size w w' := by
  rcases h with ⟨rfl, rfl⟩ | ⟨b, cap, rfl, hb, ht⟩
  · refine (heldFieldNil_any k w).mono ?_
    rintro e w' ⟨rfl, rfl⟩
    exact ⟨by simp, Below.refl _ _⟩
  · exact heldFields_any b n cap k w ht hn hk

def kAt (l : List EntV) (k i : Nat) : Nat := k + i + sumN (fun p => p.1.fs.length) (l.take i) * 3
theorem kAt_zero (l : List EntV) (k : Nat) : kAt l k 0 = k := by simp [kAt, sumN]
theorem kAt_succ {l : List EntV} {i : Nat} {p : EntV} (k : Nat) (h : l[i]? = some p) : kAt l k (i + 1) = kAt l k i + 1 + p.1.fs.length * 3 := by
  unfold kAt
  rw [sumN_take_succ _ l i p h]
  omega
theorem kAt_le {l : List EntV} (k i : Nat) (hi : i ≤ 1048576) (hs : sumN (fun p => p.1.fs.length) l ≤ 1048576) : kAt l k i ≤ k + 4194304 := by
  unfold kAt
  have := sumN_take_le (fun p : EntV => p.1.fs.length) l i
  omega
/-- No two lists of fields share a block, and none has that of the entries. -/
structure Ap (g : Nat) (l : List EntV) : Prop where
  g : ∀ (i : Nat) (p : EntV), l[i]? = some p → p.2.ownBlock ≠ some g
  two : ∀ (i j : Nat) (p q : EntV), i ≠ j → l[i]? = some p → l[j]? = some q → ∀ b, p.2.ownBlock = some b → q.2.ownBlock ≠ some b
theorem Ap.of {w : World} {B g n cap : Nat} {l : List EntV} (h : PairsNew w B (.slice (some ⟨g, 0, none⟩) n cap) l) : Ap g l := by
  refine ⟨fun i p hp e => ?_, fun i j p q hij hp hq b hb hb' => ?_⟩
  · exact own_apart h.row (h.flds p (List.mem_of_getElem? hp)) (by decide) _ e rfl
  · obtain ⟨hi, rfl⟩ := List.getElem?_eq_some_iff.1 hp
    obtain ⟨hj, rfl⟩ := List.getElem?_eq_some_iff.1 hq
    have hpw := List.pairwise_iff_getElem.1 h.apart
    rcases Nat.lt_or_gt_of_ne hij with hlt | hgt
    · exact hpw i j hi hj hlt b hb hb'
    · exact hpw j i hj hi hgt b hb' hb
/-- While entries are marked: mn names and the fields of mf entries are. -/
structure EMk (w : World) (g : Nat) (l : List EntV) (k mn mf : Nat) : Prop where
  z : g < w.heap.size
  t : w.there g 0 (l.length * 2)
  s : ∀ (i : Nat) (p : EntV), l[i]? = some p → w.cell? ⟨g, i * 2 + 1, none⟩ = some p.2
  r : ∀ (i : Nat) (p : EntV), l[i]? = some p → mf ≤ i → Roo w p.2 p.1.fs.length 3
  n : ∀ i, i < mn → w.cell? ⟨g, i * 2, none⟩ = some (.string (mkT (kAt l k i)))
  f : ∀ (i : Nat) (p : EntV), i < mf → l[i]? = some p → RowM w p.2 p.1.fs.length 3 (mkV 3 patField (kAt l k i + 1))
theorem EMk.call {w w' : World} {g : Nat} {l : List EntV} {k mn mf : Nat} (h : EMk w g l k mn mf) (hb : Below w.heap.size w w') : EMk w' g l k mn mf :=
  ⟨Nat.lt_of_lt_of_le h.z hb.size, there_keep h.t hb h.z, fun i p hp => cell_keep hb (Nat.le_refl _) (h.s i p hp), fun i p hp hm => (h.r i p hp hm).keep hb, fun i hi => cell_keep hb (Nat.le_refl _) (h.n i hi), fun i p hi hp => (h.f i p hi hp).keep hb⟩
theorem EMk.name {w : World} {g : Nat} {l : List EntV} {k m : Nat} (h : EMk w g l k m m) (hA : Ap g l) (hm : m < l.length) : EMk (w.setCell ⟨g, m * 2, none⟩ (.string (mkT (kAt l k m)))) g l k (m + 1) m := by
  have gs := grown_set w g (m * 2) (.string (mkT (kAt l k m)))
  have hne : ∀ (i : Nat) (p : EntV), l[i]? = some p → ∀ b, p.2.ownBlock = some b → some b ≠ some g := fun i p hp b hb e => hA.g i p hp (hb.trans e)
  refine ⟨by simpa using h.z, World.there_setCells h.t g (m * 2) [_], fun i p hp => ?_, fun i p hp hi => (h.r i p hp hi).far gs (hne i p hp), fun i hi => ?_, fun i p hi hp => (h.f i p hi hp).far gs (hne i p hp)⟩
  · exact (World.cell?_setCell_other w ⟨g, m * 2, none⟩ ⟨g, i * 2 + 1, none⟩ _ (by simp <;> omega)).trans (h.s i p hp)
  · by_cases e : i = m
    · subst e
      have := h.t (i * 2) (by omega)
      obtain ⟨u, hu⟩ : ∃ u, w.cell? ⟨g, i * 2, none⟩ = some u := by
        simp [Option.isSome_iff_exists] at this
        exact this.1
      rw [World.cell?_setCell_same w ⟨g, i * 2, none⟩ _ hu]
    · rw [World.cell?_setCell_other w ⟨g, m * 2, none⟩ ⟨g, i * 2, none⟩ _ (by simp <;> omega)]
      exact h.n i (by omega)
theorem EMk.flds {w w' : World} {g : Nat} {l : List EntV} {k m : Nat} {p : EntV} (h : EMk w g l k (m + 1) m) (hA : Ap g l) (hp : l[m]? = some p) (hR : RowM w' p.2 p.1.fs.length 3 (mkV 3 patField (kAt l k m + 1))) (hg : w.grownBy w' p.2.ownBlock) : EMk w' g l k (m + 1) (m + 1) := by
  have hb := hg.block g h.z (fun e => hA.g m p hp e.symm)
  have hne : ∀ (i : Nat) (q : EntV), i ≠ m → l[i]? = some q → ∀ b, q.2.ownBlock = some b → some b ≠ p.2.ownBlock := fun i q hi hq b hb e => hA.two i m q p hi hq hp b hb e.symm
  refine ⟨Nat.lt_of_lt_of_le h.z hg.size, there_same h.t hb, fun i q hq => (World.cell?_of_block (w := w) hb).trans (h.s i q hq), fun i q hq hi => (h.r i q hq (by omega)).far hg (hne i q (by omega) hq), fun i hi => (World.cell?_of_block (w := w) hb).trans (h.n i hi), fun i q hi hq => ?_⟩
  by_cases e : i = m
  · subst e
    rw [hp] at hq
    cases hq
    exact hR
  · exact (h.f i q (by omega) hq).far hg (hne i q e hq)
/-- What has turned: blocks of S alone. -/
structure Fr (w w' : World) (S : Nat → Prop) : Prop where
  os : w'.os = w.os
  tape : w'.tape = w.tape
  output : w'.output = w.output
  size : w.heap.size ≤ w'.heap.size
  block : ∀ j, j < w.heap.size → ¬ S j → w'.heap[j]? = w.heap[j]?
theorem Fr.refl (w : World) (S : Nat → Prop) : Fr w w S := ⟨rfl, rfl, rfl, Nat.le_refl _, fun _ _ _ => rfl⟩
theorem Fr.trans {w w1 w2 : World} {S : Nat → Prop} (h : Fr w w1 S) (k : Fr w1 w2 S) : Fr w w2 S :=
  ⟨k.1.trans h.1, k.2.trans h.2, k.3.trans h.3, Nat.le_trans h.4 k.4, fun j hj hs => (k.5 j (Nat.lt_of_lt_of_le hj h.4) hs).trans (h.5 j hj hs)⟩
theorem Fr.grown {w w' : World} {r : Option Nat} {S : Nat → Prop} (h : w.grownBy w' r) (hS : ∀ j, r = some j → S j) : Fr w w' S := ⟨h.1, h.2, h.3, h.4, fun j hj hs => h.5 j hj (fun e => hs (hS j e.symm))⟩
theorem Fr.call {w w' : World} {S : Nat → Prop} (h : Below w.heap.size w w') : Fr w w' S := ⟨h.1, h.2, h.3, h.4, fun j hj _ => h.5 j hj⟩
theorem Fr.below {w w' : World} {S : Nat → Prop} {B : Nat} (h : Fr w w' S) (hB : B ≤ w.heap.size) (hS : ∀ j, S j → B ≤ j) : Below B w w' := ⟨h.1, h.2, h.3, h.4, fun j hj => h.5 j (by omega) (fun hs => by have := hS j hs; omega)⟩
theorem Fr.mono {w w' : World} {S T : Nat → Prop} (h : Fr w w' S) (hS : ∀ j, S j → T j) : Fr w w' T := ⟨h.1, h.2, h.3, h.4, fun j hj hs => h.5 j hj (fun k => hs (hS j k))⟩
def SE (g : Nat) (l : List EntV) (j : Nat) : Prop := j = g ∨ ∃ p ∈ l, p.2.ownBlock = some j

set_option maxHeartbeats 3200000 in
theorem markEntsG_any (g cap k : Nat) (l : List EntV) (w : World) (hE : EMk w g l k 0 0) (hA : Ap g l) (hl : l.length ≤ 1048576) (hsz : sumN (fun p => p.1.fs.length) l ≤ 1048576) (hk8 : k ≤ 200000000) :
    Calls Tryz.prog 46 #[.slice (some ⟨g, 0, none⟩) l.length cap, .int .i64 k] w fun e w' => e = .returned (.int .i64 ((kAt l k l.length : Nat) : Int)) ∧ EMk w' g l k l.length l.length ∧ Fr w w' (SE g l) := by
  have HE : Hid (EMk w g l k 0 0) := hE
  have HA : Hid (Ap g l) := hA
  have HFL : Hid (∀ (i : Nat) (p : EntV), l[i]? = some p → p.1.fs.length ≤ 1048576) := fun i p hp => Nat.le_trans (sumN_mem (fun p : EntV => p.1.fs.length) l p (List.mem_of_getElem? hp)) hsz
  have HK0 : Hid (kAt l k 0 = k) := kAt_zero l k
  have HKL : Hid (∀ i, i ≤ 1048576 → kAt l k i ≤ k + 4194304) := fun i hi => kAt_le k i hi hsz
  clear hE hA hsz
  go_enter Tryz.func46, Tryz.ntmps46
  go_wp2
  go_loopw [1, 5] (fun kk i wr => ∃ m K : Nat, m ≤ l.length ∧ i = .int .i64 m ∧ Hid (kAt l k m = K) ∧ kk = .int .i64 (K : Int) ∧ Hid (EMk wr g l k m m ∧ Fr w wr (SE g l))) (fun _ i _ => l.length - (intOf i).toNat)
  case atStart => exact ⟨0, k, Nat.zero_le _, rfl, HK0.out, rfl, HE.out, Fr.refl _ _⟩
  case round =>
    obtain ⟨m, K, hm, rfl, HQ, rfl, HS⟩ := hrel
    have hK1 : K ≤ k + 4194304 := by rw [← HQ.out]; exact HKL.out m (by omega)
    by_cases hlt : m < l.length
    · have hm0 : (0 : Int) ≤ (m : Int) := by omega
      have hm1 : (m : Int) < (l.length : Int) := by omega
      obtain ⟨p, hp⟩ : ∃ p, l[m]? = some p := ⟨l[m], List.getElem?_eq_getElem hlt⟩
      have HP : Hid (l[m]? = some p) := hp
      have hfl := HFL.out m p hp
      have HT : Hid (kAt l k (m + 1) = K + 1 + p.1.fs.length * 3) := by
        show _ = _
        rw [kAt_succ k hp, HQ.out]
      clear hp
      go_wp2_with fail
      refine (markText_any K (by omega) _).mono ?_
      rintro e w1 ⟨rfl, hb1⟩
      have hE1 := HS.out.1.call hb1
      obtain ⟨⟨v0, c0⟩, f0⟩ : (∃ v, w1.cell? ⟨g, m * 2, none⟩ = some v) ∧ w1.frozen? ⟨g, m * 2, none⟩ = false := by
        have := hE1.t (m * 2) (by omega)
        simpa [Option.isSome_iff_exists] using this
      have c1 : w1.cell? ⟨g, m * 2 + 1, none⟩ = some p.2 := hE1.s m p HP.out
      have hE2 := hE1.name HA.out hlt
      rw [HQ.out] at hE2
      have HE2 : Hid (EMk (w1.setCell ⟨g, m * 2, none⟩ (.string (mkT K))) g l k (m + 1) m) := hE2
      have HF2 : Hid (Fr w (w1.setCell ⟨g, m * 2, none⟩ (.string (mkT K))) (SE g l)) := (HS.out.2.trans (Fr.call hb1)).trans (Fr.grown (grown_set w1 g (m * 2) _) (fun j e => by cases e; exact .inl rfl))
      have hR := hE2.r m p HP.out (Nat.le_refl _)
      have HSL : Hid (∃ a c, p.2 = .slice a p.1.fs.length c) := by
        rcases hR with ⟨h1, h2⟩ | ⟨b, c, h1, _⟩
        · exact ⟨none, 0, by rw [h1, h2]⟩
        · exact ⟨_, _, h1⟩
      obtain ⟨pa, pc, hpv⟩ := HSL.out
      have HW : Hid (Calls Tryz.prog 87 #[.slice pa p.1.fs.length pc, .int .i64 ((K : Int) + 1)] (w1.setCell ⟨g, m * 2, none⟩ (.string (mkT K))) fun e w' => e = .returned (.int .i64 ((K + 1 + p.1.fs.length * 3 : Nat) : Int)) ∧ RowM w' p.2 p.1.fs.length 3 (mkV 3 patField (K + 1)) ∧ (w1.setCell ⟨g, m * 2, none⟩ (.string (mkT K))).grownBy w' p.2.ownBlock) := by
        have h := markFieldG_any p.2 p.1.fs.length (K + 1) _ hR hfl (by omega)
        rw [show ((K + 1 : Nat) : Int) = (K : Int) + 1 by push_cast; rfl] at h
        rw [hpv] at h ⊢
        exact h
      rw [hpv] at c1
      clear hE1 hE2 hR hb1 HS HSL hpv
      go_wp2_with fail
      refine HW.out.mono ?_
      rintro e w2 ⟨rfl, hM2, hg2⟩
      have HE3 : Hid (EMk w2 g l k (m + 1) (m + 1) ∧ Fr w w2 (SE g l)) := by
        refine ⟨HE2.out.flds HA.out HP.out ?_ hg2, HF2.out.trans (Fr.grown hg2 (fun j e => .inr ⟨p, List.mem_of_getElem? HP.out, e⟩))⟩
        rw [HQ.out]; exact hM2
      clear hM2 hg2 HW HE2 HF2
      generalize hK2 : K + 1 + p.1.fs.length * 3 = K2 at *
      go_wp2
      exact ⟨⟨m + 1, K2, by omega, by go_num, HT, rfl, HE3⟩, by simp [intOf]; omega⟩
    · have HF : Hid (m = l.length) := by show m = l.length; omega
      go_wp2
      go_ret
      have h1 := HS.out
      have h2 := HQ.out
      rw [HF.out] at h1 h2
      exact ⟨ret_int (by rw [h2]), h1⟩

set_option maxHeartbeats 3200000 in
theorem heldEntsG_any (g cap k : Nat) (l : List EntV) (w : World) (hE : EMk w g l k l.length l.length) (hl : l.length ≤ 1048576) (hsz : sumN (fun p => p.1.fs.length) l ≤ 1048576) (hk8 : k ≤ 200000000) :
    Calls Tryz.prog 48 #[.slice (some ⟨g, 0, none⟩) l.length cap, .int .i64 k] w fun e w' => e = .returned (.int .i64 ((kAt l k l.length : Nat) : Int)) ∧ Below w.heap.size w w' := by
  have HE : Hid (EMk w g l k l.length l.length) := hE
  have HFL : Hid (∀ (i : Nat) (p : EntV), l[i]? = some p → p.1.fs.length ≤ 1048576) := fun i p hp => Nat.le_trans (sumN_mem (fun p : EntV => p.1.fs.length) l p (List.mem_of_getElem? hp)) hsz
  have HK0 : Hid (kAt l k 0 = k) := kAt_zero l k
  have HKL : Hid (∀ i, i ≤ 1048576 → kAt l k i ≤ k + 4194304) := fun i hi => kAt_le k i hi hsz
  clear hE hsz
  go_enter Tryz.func48, Tryz.ntmps48
  go_wp2
  go_loopw [1, 5] (fun kk i wr => ∃ m K : Nat, m ≤ l.length ∧ i = .int .i64 m ∧ Hid (kAt l k m = K) ∧ kk = .int .i64 (K : Int) ∧ Hid (Below w.heap.size w wr)) (fun _ i _ => l.length - (intOf i).toNat)
  case atStart => exact ⟨0, k, Nat.zero_le _, rfl, HK0.out, rfl, Below.refl _ _⟩
  case round =>
    obtain ⟨m, K, hm, rfl, HQ, rfl, HBW⟩ := hrel
    have hK1 : K ≤ k + 4194304 := by rw [← HQ.out]; exact HKL.out m (by omega)
    by_cases hlt : m < l.length
    · have hm0 : (0 : Int) ≤ (m : Int) := by omega
      have hm1 : (m : Int) < (l.length : Int) := by omega
      obtain ⟨p, hp⟩ : ∃ p, l[m]? = some p := ⟨l[m], List.getElem?_eq_getElem hlt⟩
      have HP : Hid (l[m]? = some p) := hp
      have hfl := HFL.out m p hp
      have HT : Hid (kAt l k (m + 1) = K + 1 + p.1.fs.length * 3) := by
        show _ = _
        rw [kAt_succ k hp, HQ.out]
      have hM := HE.out.f m p hlt hp
      rw [HQ.out] at hM
      have d0 := HE.out.n m hlt
      rw [HQ.out] at d0
      have d1 := HE.out.s m p hp
      have HSL : Hid (∃ a c, p.2 = .slice a p.1.fs.length c) := by
        rcases hM with ⟨h1, h2⟩ | ⟨b, c, h1, _⟩
        · exact ⟨none, 0, by rw [h1, h2]⟩
        · exact ⟨_, _, h1⟩
      obtain ⟨pa, pc, hpv⟩ := HSL.out
      have HRM : Hid (RowM w (.slice pa p.1.fs.length pc) p.1.fs.length 3 (mkV 3 patField (K + 1))) := by rw [hpv] at hM; exact hM
      rw [hpv] at d1
      clear hp hM HSL hpv
      have GT0 : Hid (∀ wx : World, Calls Tryz.prog 57 #[.int .i64 (K : Int)] wx fun e w' => e = .returned (.string (mkT K)) ∧ Below wx.heap.size wx w') := fun wx => markText_any K (by omega) wx
      have HD := toHid (And.intro d0 d1)
      clear d0 d1
      obtain ⟨d0, d1⟩ := HD.out
      have c0 := cell_keep HBW.out (Nat.le_refl _) d0
      have c1 := cell_keep HBW.out (Nat.le_refl _) d1
      clear d0 d1
      have bz : g < wr.heap.size := lt_of_cell c0
      have hne0 := Later.some wr
      have GL0 : Hid (∀ y : Later wr, Calls Tryz.prog 57 #[.int .i64 (K : Int)] y.val fun e w'' => e = .returned (.string (mkT K)) ∧ ∃ z : Later wr, w'' = z.val) := fun y => Calls.later (GT0.out y.val)
      go_wp2
      refine wp_region_later (by kernel_rfl) (by kernel_rfl) ?_
      repeat (go_big_quiet_step (first | (go_at_call 57; exact GL0.out _)))
      refine wpQuiet_nil ?_
      rintro _ ⟨x0, rfl⟩
      have HBN0 : Hid (Below w.heap.size w x0.val) := below_step HBW.out x0.below
      generalize x0.val = w0 at *
      clear c0 c1 bz HBW GL0 hne0
      have HBW := HBN0
      clear HBN0
      obtain ⟨d0, d1⟩ := HD.out
      have c0 := cell_keep HBW.out (Nat.le_refl _) d0
      have c1 := cell_keep HBW.out (Nat.le_refl _) d1
      clear d0 d1
      have HW : Hid (Calls Tryz.prog 90 #[.slice pa p.1.fs.length pc, .int .i64 ((K : Int) + 1)] w0 fun e w' => e = .returned (.int .i64 ((K + 1 + p.1.fs.length * 3 : Nat) : Int)) ∧ Below w0.heap.size w0 w') := by
        have h := heldFieldG_any _ p.1.fs.length (K + 1) _ (HRM.out.keep HBW.out) hfl (by omega)
        rw [show ((K + 1 : Nat) : Int) = (K : Int) + 1 by push_cast; rfl] at h
        exact h
      go_wp2_with fail
      refine HW.out.mono ?_
      rintro e w2 ⟨rfl, hb2⟩
      have HB2 : Hid (Below w.heap.size w w2) := below_step HBW.out hb2
      clear hb2 HW HBW c0 c1
      generalize hK2 : K + 1 + p.1.fs.length * 3 = K2 at *
      have hK20 : (0 : Int) ≤ (K2 : Int) := by omega
      go_wp2
      exact ⟨⟨m + 1, K2, by omega, by go_num, HT, rfl, HB2⟩, by simp [intOf]; omega⟩
    · have HF : Hid (m = l.length) := by show m = l.length; omega
      go_wp2
      go_ret
      have h2 := HQ.out
      rw [HF.out] at h2
      exact ⟨ret_int (by rw [h2]), HBW.out⟩
end Go.Proofs.YtehpdbbkbdfobabGreat

/-
  The law's marks over a whole book of one's own.
-/
namespace Go.Proofs.YtehpdbbkbdfobabGreat
open Go.RowKit
set_option linter.unusedSimpArgs false
set_option linter.unusedVariables false

theorem pairRows_at {l : List EntV} {i : Nat} {p : EntV} (h : l[i]? = some p) : (pairRows l)[i * 2 + 1]? = some p.2 := by
  unfold pairRows
  rw [rows_idx pairRow 2 (fun _ => rfl) l i 1 (by omega), h]
  rfl
theorem sumN_map {α β : Type} (g : β → Nat) (f : α → β) (l : List α) : sumN g (l.map f) = sumN (fun a => g (f a)) l := by
  induction l with
  | nil => rfl
  | cons a l ih => simp only [List.map_cons, sumN, ih]
theorem ownsRow_sameM {W W' : World} {base : Nat} {e : TypeId} {size : Nat} {v : Value} {n : Nat} {xs : List Value} (h : W.ownsRow base e size v n xs) (hs : ∀ k, v.ownBlock = some k → k < W.heap.size → W'.heap[k]? = W.heap[k]?) : W'.ownsRow base e size v n xs := by
  refine ⟨h.1, ?_⟩
  rcases h.2 with h2 | ⟨g, cap, cur, hv, hb, hc, rest⟩
  · exact .inl h2
  · exact .inr ⟨g, cap, cur, hv, hb, (hs g (by rw [hv]; rfl) (Array.getElem?_eq_some_iff.1 hc).1).trans hc, rest⟩
theorem Roo.slice {w : World} {v : Value} {n c : Nat} (h : Roo w v n c) : ∃ a cap, v = .slice a n cap := by
  rcases h with ⟨h1, h2⟩ | ⟨b, c, h1, _⟩
  · exact ⟨none, 0, by rw [h1, h2]⟩
  · exact ⟨_, _, h1⟩
theorem RowM.slice {w : World} {v : Value} {n c : Nat} {f : Nat → Value} (h : RowM w v n c f) : ∃ a cap, v = .slice a n cap := by
  rcases h with ⟨h1, h2⟩ | ⟨b, c, h1, _⟩
  · exact ⟨none, 0, by rw [h1, h2]⟩
  · exact ⟨_, _, h1⟩
theorem Roo.lt {w : World} {v : Value} {n c : Nat} (h : Roo w v n c) : ∀ k, v.ownBlock = some k → k < w.heap.size := by
  rcases h with ⟨rfl, _⟩ | ⟨b, c, rfl, hb, _⟩
  · intro k hk; cases hk
  · intro k hk; cases hk; exact hb
def Own2 (x y : Value) (j : Nat) : Prop := x.ownBlock = some j ∨ y.ownBlock = some j
theorem Fr.cell {w w' : World} {S : Nat → Prop} {b o : Nat} {v : Value} (h : Fr w w' S) (hb : b < w.heap.size) (hs : ¬ S b) (hc : w.cell? ⟨b, o, none⟩ = some v) : w'.cell? ⟨b, o, none⟩ = some v :=
  (World.cell?_of_block (w := w) (h.block b hb hs)).trans hc

set_option maxHeartbeats 1600000 in
theorem markBaseG_any (x y : Value) (nk np k : Nat) (w : World) (hx : Roo w x nk 3) (hy : Roo w y np 3) (hap : ∀ j, x.ownBlock = some j → y.ownBlock ≠ some j) (hk : nk ≤ 1048576) (hp : np ≤ 1048576) (hk8 : k ≤ 100000000) :
    Calls Tryz.prog 45 #[.agg #[x, y], .int .i64 k] w fun e w' => e = .returned (.int .i64 ((k + nk * 3 + np * 3 : Nat) : Int)) ∧ RowM w' x nk 3 (mkV 3 patKind k) ∧ RowM w' y np 3 (mkV 3 patPoint (k + nk * 3)) ∧ Fr w w' (Own2 x y) := by
  obtain ⟨ax, cx, rfl⟩ := hx.slice
  obtain ⟨ay, cy, rfl⟩ := hy.slice
  have HX : Hid (Roo w (.slice ax nk cx) nk 3 ∧ Roo w (.slice ay np cy) np 3) := ⟨hx, hy⟩
  have HL : Hid ((∀ k, (Value.slice ax nk cx).ownBlock = some k → k < w.heap.size) ∧ ∀ k, (Value.slice ay np cy).ownBlock = some k → k < w.heap.size) := ⟨hx.lt, hy.lt⟩
  have HAP : Hid (∀ j, (Value.slice ax nk cx).ownBlock = some j → (Value.slice ay np cy).ownBlock ≠ some j) := hap
  have HX0 : Hid (OwnAt w (w.alloc (.cells #[.slice ax nk cx, .slice ay np cy] 36)) [[.slice ax nk cx, .slice ay np cy]]) := (OwnAt.start w).push rfl _ _
  clear hx hy hap
  go_enter Tryz.func45, Tryz.ntmps45
  go_wp2_with fail
  refine (markKindG_any _ nk k _ (HX.out.1.keep HX0.out.below) hk (by omega)).mono ?_
  rintro e w1 ⟨rfl, hM1, hg1⟩
  have hs0 : (w.alloc (.cells #[.slice ax nk cx, .slice ay np cy] 36)).heap.size = w.heap.size + 1 := by simp
  have hne : ∀ j, (Value.slice ax nk cx).ownBlock = some j → ¬ j = w.heap.size := fun j hj => by have := HL.out.1 j hj; omega
  have hblk := hg1.block w.heap.size (by omega) (fun e => hne _ e.symm rfl)
  have y0 : w1.cell? ⟨w.heap.size, 0, none⟩ = some (.slice ax nk cx) := (World.cell?_of_block (w := w.alloc _) hblk).trans (HX0.out.has 0 _ rfl 0 _ rfl).1
  have y1 : w1.cell? ⟨w.heap.size, 1, none⟩ = some (.slice ay np cy) := (World.cell?_of_block (w := w.alloc _) hblk).trans (HX0.out.has 0 _ rfl 1 _ rfl).1
  have HM1 : Hid (RowM w1 (.slice ax nk cx) nk 3 (mkV 3 patKind k)) := hM1
  have HY1 : Hid (Roo w1 (.slice ay np cy) np 3) := (HX.out.2.keep HX0.out.below).far hg1 (fun j hj e => HAP.out j e.symm hj)
  have HF1 : Hid (Fr w w1 (Own2 (.slice ax nk cx) (.slice ay np cy))) := (Fr.call HX0.out.below).trans (Fr.grown hg1 (fun j e => .inl e))
  clear hM1 hg1 hblk hne hs0
  generalize hkk : k + nk * 3 = k1 at *
  have hk1 : k1 ≤ 1000000000 := by omega
  go_wp2_with fail
  refine (markPointG_any _ np k1 _ HY1.out hp hk1).mono ?_
  rintro e w2 ⟨rfl, hM2, hg2⟩
  have HF2 : Hid (RowM w2 (.slice ax nk cx) nk 3 (mkV 3 patKind k) ∧ RowM w2 (.slice ay np cy) np 3 (mkV 3 patPoint k1) ∧ Fr w w2 (Own2 (.slice ax nk cx) (.slice ay np cy))) :=
    ⟨HM1.out.far hg2 (fun j hj e => HAP.out j hj e.symm), hM2, HF1.out.trans (Fr.grown hg2 (fun j e => .inr e))⟩
  clear hM2 hg2
  generalize hk2 : k1 + np * 3 = k2 at *
  go_wp2
  go_ret
  exact ⟨ret_int (by rw [← hk2, ← hkk]), HF2.out.1, by rw [hkk]; exact HF2.out.2.1, HF2.out.2.2⟩
set_option maxHeartbeats 1600000 in
theorem heldBaseG_any (x y : Value) (nk np k : Nat) (w : World) (hx : RowM w x nk 3 (mkV 3 patKind k)) (hy : RowM w y np 3 (mkV 3 patPoint (k + nk * 3))) (hk : nk ≤ 1048576) (hp : np ≤ 1048576) (hk8 : k ≤ 100000000) :
    Calls Tryz.prog 47 #[.agg #[x, y], .int .i64 k] w fun e w' => e = .returned (.int .i64 ((k + nk * 3 + np * 3 : Nat) : Int)) ∧ Below w.heap.size w w' := by
  obtain ⟨ax, cx, rfl⟩ := hx.slice
  obtain ⟨ay, cy, rfl⟩ := hy.slice
  have HX0 : Hid (OwnAt w (w.alloc (.cells #[.slice ax nk cx, .slice ay np cy] 36)) [[.slice ax nk cx, .slice ay np cy]]) := (OwnAt.start w).push rfl _ _
  generalize hkk : k + nk * 3 = k1 at *
  have HX : Hid (RowM w (.slice ax nk cx) nk 3 (mkV 3 patKind k) ∧ RowM w (.slice ay np cy) np 3 (mkV 3 patPoint k1)) := ⟨hx, hy⟩
  have HKK : Hid (k + nk * 3 = k1) := hkk
  have hk1 : k1 ≤ 1000000000 := by omega
  clear hx hy hkk
  go_enter Tryz.func47, Tryz.ntmps47
  go_wp2_with fail
  refine (heldKindG_any _ nk k _ (HX.out.1.keep HX0.out.below) hk (by omega)).mono ?_
  rintro e w1 ⟨rfl, hb1⟩
  rw [HKK.out]
  have HX1 : Hid (OwnAt w w1 _) := HX0.out.call hb1
  have y0 : w1.cell? ⟨w.heap.size, 0, none⟩ = some (.slice ax nk cx) := (HX1.out.has 0 _ rfl 0 _ rfl).1
  have y1 : w1.cell? ⟨w.heap.size, 1, none⟩ = some (.slice ay np cy) := (HX1.out.has 0 _ rfl 1 _ rfl).1
  have hk10 : (0 : Int) ≤ (k1 : Int) := by omega
  clear hb1 HX0
  go_wp2_with fail
  refine (heldPointG_any _ np k1 _ (HX.out.2.keep HX1.out.below) hp hk1).mono ?_
  rintro e w2 ⟨rfl, hb2⟩
  have HB2 : Hid (Below w.heap.size w w2) := below_step HX1.out.below hb2
  clear hb2
  generalize hk2 : k1 + np * 3 = k2 at *
  have hk20 : (0 : Int) ≤ (k2 : Int) := by omega
  go_wp2
  go_ret
  exact ⟨ret_int (by rw [← hk2]), HB2.out⟩
theorem markEntNil_any (k : Nat) (w : World) : Calls Tryz.prog 46 #[.slice none 0 0, .int .i64 k] w fun e w' => e = .returned (.int .i64 k) ∧ w' = w := by
  go_enter Tryz.func46, Tryz.ntmps46
  go_wp2
  go_loopw [1, 5] (fun kk i wr => i = .int .i64 0 ∧ kk = .int .i64 k ∧ wr = w) (fun _ _ _ => 0)
  case atStart => exact ⟨rfl, rfl, rfl⟩
  case round =>
    obtain ⟨rfl, rfl, rfl⟩ := hrel
    go_wp2
    go_ret
    exact ⟨rfl, rfl⟩
theorem heldEntNil_any (k : Nat) (w : World) : Calls Tryz.prog 48 #[.slice none 0 0, .int .i64 k] w fun e w' => e = .returned (.int .i64 k) ∧ w' = w := by
  go_enter Tryz.func48, Tryz.ntmps48
  go_wp2
  go_loopw [1, 5] (fun kk i wr => i = .int .i64 0 ∧ kk = .int .i64 k ∧ wr = w) (fun _ _ _ => 0)
  case atStart => exact ⟨rfl, rfl, rfl⟩
  case round =>
    obtain ⟨rfl, rfl, rfl⟩ := hrel
    go_wp2
    go_ret
    exact ⟨rfl, rfl⟩
/-- Entries that hold their marks. -/
def EntsM (w : World) (z : Value) (l : List EntV) (k : Nat) : Prop := (z = .slice none 0 0 ∧ l = []) ∨ ∃ g cap, z = .slice (some ⟨g, 0, none⟩) l.length cap ∧ EMk w g l k l.length l.length
theorem EntsM.keep {w w' : World} {z : Value} {l : List EntV} {k : Nat} (h : EntsM w z l k) (hb : Below w.heap.size w w') : EntsM w' z l k := by
  rcases h with h | ⟨g, cap, h1, h2⟩
  · exact .inl h
  · exact .inr ⟨g, cap, h1, h2.call hb⟩
def SZ (z : Value) (l : List EntV) (j : Nat) : Prop := z.ownBlock = some j ∨ ∃ p ∈ l, p.2.ownBlock = some j
theorem PairsNew.emk {w : World} {B g n cap : Nat} {l : List EntV} (h : PairsNew w B (.slice (some ⟨g, 0, none⟩) n cap) l) (k : Nat) : EMk w g l k 0 0 := by
  have hr := Roo.of h.row
  obtain ⟨h1, h2⟩ := h.row
  rcases h2 with ⟨h2, _⟩ | ⟨g', cap', cur, hv, hB, hb, hn, hc, hs, ht⟩
  · cases h2
  · cases hv
    rcases hr with ⟨hr, _⟩ | ⟨b, c, hr, hlt, hth⟩
    · cases hr
    · cases hr
      refine ⟨hlt, hth, fun i p hp => ?_, fun i p hp _ => Roo.of (h.flds p (List.mem_of_getElem? hp)), fun i hi => by omega, fun i p hi => by omega⟩
      have hil : i < l.length := (List.getElem?_eq_some_iff.1 hp).1
      have hx : cur.toList[i * 2 + 1]? = some p.2 := by
        have e1 : (cur.toList.take (l.length * 2))[i * 2 + 1]? = cur.toList[i * 2 + 1]? := by rw [List.getElem?_take, if_pos (by omega)]
        rw [← e1, ht]
        exact pairRows_at hp
      simp only [World.cell?, hb, Option.isSome_none, Bool.false_eq_true, if_false]
      simpa using hx
theorem markEntsN_any (z : Value) (k B : Nat) (l : List EntV) (w : World) (h : PairsNew w B z l) (hl : l.length ≤ 1048576) (hsz : sumN (fun p => p.1.fs.length) l ≤ 1048576) (hk8 : k ≤ 200000000) :
    Calls Tryz.prog 46 #[z, .int .i64 k] w fun e w' => e = .returned (.int .i64 ((kAt l k l.length : Nat) : Int)) ∧ EntsM w' z l k ∧ Fr w w' (SZ z l) := by
  rcases h.row.2 with ⟨rfl, h0⟩ | ⟨g, cap, cur, rfl, _⟩
  · obtain rfl : l = [] := List.eq_nil_of_length_eq_zero h0
    refine (markEntNil_any k w).mono ?_
    rintro e w' ⟨rfl, rfl⟩
    exact ⟨by simp [kAt_zero], .inl ⟨rfl, rfl⟩, Fr.refl _ _⟩
  · refine (markEntsG_any g cap k l w (h.emk k) (Ap.of h) hl hsz hk8).mono ?_
    rintro e w' ⟨rfl, hE, hF⟩
    exact ⟨rfl, .inr ⟨g, cap, rfl, hE⟩, hF.mono (fun j hj => by
      rcases hj with rfl | hj
      · exact .inl rfl
      · exact .inr hj)⟩
theorem heldEntsN_any (z : Value) (k : Nat) (l : List EntV) (w : World) (h : EntsM w z l k) (hl : l.length ≤ 1048576) (hsz : sumN (fun p => p.1.fs.length) l ≤ 1048576) (hk8 : k ≤ 200000000) :
    Calls Tryz.prog 48 #[z, .int .i64 k] w fun e w' => e = .returned (.int .i64 ((kAt l k l.length : Nat) : Int)) ∧ Below w.heap.size w w' := by
  rcases h with ⟨rfl, rfl⟩ | ⟨g, cap, rfl, hE⟩
  · refine (heldEntNil_any k w).mono ?_
    rintro e w' ⟨rfl, rfl⟩
    exact ⟨by simp [kAt_zero], Below.refl _ _⟩
  · exact heldEntsG_any g cap k l w hE hl hsz hk8

/-- A book that holds its marks, M the next one. -/
structure BookM (w : World) (x y z : Value) (M : Nat) : Prop where
  has : ∃ nk np l, nk ≤ 1048576 ∧ np ≤ 1048576 ∧ l.length ≤ 1048576 ∧ sumN (fun p : EntV => p.1.fs.length) l ≤ 1048576 ∧ RowM w x nk 3 (mkV 3 patKind 1) ∧ RowM w y np 3 (mkV 3 patPoint (1 + nk * 3)) ∧ EntsM w z l (1 + nk * 3 + np * 3) ∧ M = kAt l (1 + nk * 3 + np * 3) l.length
theorem BookM.keep {w w' : World} {x y z : Value} {M : Nat} (h : BookM w x y z M) (hb : Below w.heap.size w w') : BookM w' x y z M := by
  obtain ⟨nk, np, l, h1, h2, h3, h4, h5, h6, h7, h8⟩ := h.has
  exact ⟨nk, np, l, h1, h2, h3, h4, h5.keep hb, h6.keep hb, h7.keep hb, h8⟩

set_option maxHeartbeats 1600000 in
theorem markBookG_any (x y z : Value) (ks ps : List Tri) (es : List Ent) (lo : Nat) (w : World) (hB : BookNew lo w x y z ks ps es) (hlo : lo ≤ w.heap.size) (lk : ks.length ≤ 1048576) (lp : ps.length ≤ 1048576) (le : es.length ≤ 1048576) (hsz : sumN (fun e => e.fs.length) es ≤ 1048576) :
    Calls Tryz.prog 14 #[.agg #[x, y, z], .int .i64 1] w fun e w' => ∃ M : Nat, e = .returned (.int .i64 (M : Int)) ∧ M ≤ 20000000 ∧ BookM w' x y z M ∧ Below lo w w' ∧ ∀ (X : Nat) (C : Array Value), w.heap[X]? = some (.cells C 39 (0, 0)) → w'.heap[X]? = some (.cells C 39 (0, 0)) := by
  obtain ⟨hk, hp, l, hl, hE⟩ := hB
  obtain ⟨ax, cx, rfl⟩ := own_slice hk
  obtain ⟨ay, cy, rfl⟩ := own_slice hp
  obtain ⟨az, cz, rfl⟩ := own_slice hE.row
  have hll : l.length ≤ 1048576 := by rw [← hl, List.length_map] at le; exact le
  have hls : sumN (fun p : EntV => p.1.fs.length) l ≤ 1048576 := by rw [← hl, sumN_map] at hsz; exact hsz
  have axy : ∀ j, (Value.slice ax ks.length cx).ownBlock = some j → (Value.slice ay ps.length cy).ownBlock ≠ some j := fun j h1 h2 => own_apart hk hp (by decide) j h2 h1.symm
  have axz : ∀ j, (Value.slice ax ks.length cx).ownBlock = some j → (Value.slice az l.length cz).ownBlock ≠ some j := fun j h1 h2 => own_apart hk hE.row (by decide) j h2 h1.symm
  have ayz : ∀ j, (Value.slice ay ps.length cy).ownBlock = some j → (Value.slice az l.length cz).ownBlock ≠ some j := fun j h1 h2 => own_apart hp hE.row (by decide) j h2 h1.symm
  have axf : ∀ p ∈ l, ∀ j, (Value.slice ax ks.length cx).ownBlock = some j → p.2.ownBlock ≠ some j := fun p hpl j h1 h2 => own_apart hk (hE.flds p hpl) (by decide) j h2 h1.symm
  have ayf : ∀ p ∈ l, ∀ j, (Value.slice ay ps.length cy).ownBlock = some j → p.2.ownBlock ≠ some j := fun p hpl j h1 h2 => own_apart hp (hE.flds p hpl) (by decide) j h2 h1.symm
  have HR : Hid (Roo w (.slice ax ks.length cx) ks.length 3 ∧ Roo w (.slice ay ps.length cy) ps.length 3 ∧ PairsNew w lo (.slice az l.length cz) l) := ⟨Roo.of hk, Roo.of hp, hE⟩
  have HAP : Hid ((∀ j, (Value.slice ax ks.length cx).ownBlock = some j → (Value.slice ay ps.length cy).ownBlock ≠ some j) ∧ (∀ j, Own2 (.slice ax ks.length cx) (.slice ay ps.length cy) j → ¬ SZ (.slice az l.length cz) l j)) := by
    refine ⟨axy, fun j h1 h2 => ?_⟩
    rcases h1 with h1 | h1 <;> rcases h2 with h2 | ⟨p, hpl, h2⟩
    · exact axz j h1 h2
    · exact axf p hpl j h1 h2
    · exact ayz j h1 h2
    · exact ayf p hpl j h1 h2
  have HGE : Hid ((∀ j, Own2 (.slice ax ks.length cx) (.slice ay ps.length cy) j → lo ≤ j ∧ j < w.heap.size) ∧ ∀ j, SZ (.slice az l.length cz) l j → lo ≤ j ∧ j < w.heap.size) := by
    refine ⟨fun j h => ?_, fun j h => ?_⟩
    · rcases h with h | h
      · exact ⟨own_ge hk j h, own_lt hk j h⟩
      · exact ⟨own_ge hp j h, own_lt hp j h⟩
    · rcases h with h | ⟨p, hpl, h⟩
      · exact ⟨own_ge hE.row j h, own_lt hE.row j h⟩
      · exact ⟨own_ge (hE.flds p hpl) j h, own_lt (hE.flds p hpl) j h⟩
  have HNB : Hid (∀ (X : Nat) (C : Array Value), w.heap[X]? = some (.cells C 39 (0, 0)) → ¬ Own2 (.slice ax ks.length cx) (.slice ay ps.length cy) X ∧ ¬ SZ (.slice az l.length cz) l X) := fun X C hX => by
    refine ⟨fun h => ?_, fun h => ?_⟩
    · rcases h with h | h
      · exact own_other hk hX (by decide) h.symm
      · exact own_other hp hX (by decide) h.symm
    · rcases h with h | ⟨p, hpl, h⟩
      · exact own_other hE.row hX (by decide) h.symm
      · exact own_other (hE.flds p hpl) hX (by decide) h.symm
  clear hk hp hE axy axz ayz axf ayf hl le hsz
  have HX0 : Hid (OwnAt w (w.alloc (.cells #[.slice ax ks.length cx, .slice ay ps.length cy, .slice az l.length cz] 39)) [[.slice ax ks.length cx, .slice ay ps.length cy, .slice az l.length cz]]) := (OwnAt.start w).push rfl _ _
  go_enter Tryz.func14, Tryz.ntmps14
  go_wp2_with fail
  refine (markBaseG_any _ _ ks.length ps.length 1 _ (HR.out.1.keep HX0.out.below) (HR.out.2.1.keep HX0.out.below) HAP.out.1 lk lp (by omega)).mono ?_
  rintro e w1 ⟨rfl, hMx, hMy, hF⟩
  have hs0 : (w.alloc (.cells #[.slice ax ks.length cx, .slice ay ps.length cy, .slice az l.length cz] 39)).heap.size = w.heap.size + 1 := by simp
  have hnS : ¬ Own2 (.slice ax ks.length cx) (.slice ay ps.length cy) w.heap.size := fun h => by have := (HGE.out.1 _ h).2; omega
  have y0 : w1.cell? ⟨w.heap.size, 0, none⟩ = some (.slice ax ks.length cx) := hF.cell (by omega) hnS (HX0.out.has 0 _ rfl 0 _ rfl).1
  have y1 : w1.cell? ⟨w.heap.size, 1, none⟩ = some (.slice ay ps.length cy) := hF.cell (by omega) hnS (HX0.out.has 0 _ rfl 1 _ rfl).1
  have y2 : w1.cell? ⟨w.heap.size, 2, none⟩ = some (.slice az l.length cz) := hF.cell (by omega) hnS (HX0.out.has 0 _ rfl 2 _ rfl).1
  have HM1 : Hid (RowM w1 (.slice ax ks.length cx) ks.length 3 (mkV 3 patKind 1) ∧ RowM w1 (.slice ay ps.length cy) ps.length 3 (mkV 3 patPoint (1 + ks.length * 3))) := ⟨hMx, hMy⟩
  have HP1 : Hid (PairsNew w1 lo (.slice az l.length cz) l) := by
    have h0 := HR.out.2.2.keep HX0.out.below
    refine ⟨ownsRow_sameM h0.row (fun j hj hlt => hF.block j hlt (fun hS => HAP.out.2 j hS (.inl hj))), fun p hpl => ownsRow_sameM (h0.flds p hpl) (fun j hj hlt => hF.block j hlt (fun hS => HAP.out.2 j hS (.inr ⟨p, hpl, hj⟩))), h0.apart⟩
  have HF1 : Hid (Below lo w w1) := (HX0.out.below.mono hlo).trans (hF.below (by omega) (fun j hj => (HGE.out.1 j hj).1))
  have HBX1 : Hid (∀ (X : Nat) (C : Array Value), w.heap[X]? = some (.cells C 39 (0, 0)) → w1.heap[X]? = some (.cells C 39 (0, 0))) := fun X C hX => by
    have hlt := (Array.getElem?_eq_some_iff.1 hX).1
    exact (hF.block X (by omega) (HNB.out X C hX).1).trans ((HX0.out.below.block X hlt).trans hX)
  clear hMx hMy hF hnS hs0
  generalize hK : 1 + ks.length * 3 + ps.length * 3 = K at *
  go_wp2_with fail
  refine (markEntsN_any _ K lo l _ HP1.out hll hls (by omega)).mono ?_
  rintro e w2 ⟨rfl, hE2, hF2⟩
  have hkl := kAt_le K l.length hll hls
  have HO : Hid (BookM w2 (.slice ax ks.length cx) (.slice ay ps.length cy) (.slice az l.length cz) (kAt l K l.length) ∧ Below lo w w2 ∧ ∀ (X : Nat) (C : Array Value), w.heap[X]? = some (.cells C 39 (0, 0)) → w2.heap[X]? = some (.cells C 39 (0, 0))) := by
    have hsz1 := HF1.out.size
    have hr : ∀ (v : Value), (∀ j, v.ownBlock = some j → Own2 (.slice ax ks.length cx) (.slice ay ps.length cy) j) → ∀ j, v.ownBlock = some j → j < w1.heap.size → w2.heap[j]? = w1.heap[j]? := fun v hv j hj hlt => hF2.block j hlt (fun hS => HAP.out.2 j (hv j hj) hS)
    refine ⟨⟨ks.length, ps.length, l, lk, lp, hll, hls, ?_, ?_, by rw [hK]; exact hE2, by rw [hK]⟩, HF1.out.trans (hF2.below (Nat.le_trans hlo hsz1) (fun j hj => (HGE.out.2 j hj).1)), fun X C hX => (hF2.block X (Nat.lt_of_lt_of_le (Array.getElem?_eq_some_iff.1 hX).1 hsz1) (HNB.out X C hX).2).trans (HBX1.out X C hX)⟩
    · rcases HM1.out.1 with h | ⟨b, cap, hv, hb, hh⟩
      · exact .inl h
      · exact .inr ⟨b, cap, hv, Nat.lt_of_lt_of_le hb hF2.size, fun q hq => (World.cell?_of_block (w := w1) (hr _ (fun j hj => .inl hj) b (by rw [hv]; rfl) hb)).trans (hh q hq)⟩
    · rcases HM1.out.2 with h | ⟨b, cap, hv, hb, hh⟩
      · exact .inl h
      · exact .inr ⟨b, cap, hv, Nat.lt_of_lt_of_le hb hF2.size, fun q hq => (World.cell?_of_block (w := w1) (hr _ (fun j hj => .inr hj) b (by rw [hv]; rfl) hb)).trans (hh q hq)⟩
  clear hE2 hF2
  generalize kAt l K l.length = M at *
  go_wp2
  go_ret
  exact ⟨M, rfl, by omega, HO.out⟩

set_option maxHeartbeats 1600000 in
theorem heldBookG_any (x y z : Value) (M : Nat) (w : World) (hB : BookM w x y z M) :
    Calls Tryz.prog 15 #[.agg #[x, y, z], .int .i64 1] w fun e w' => e = .returned (.int .i64 (M : Int)) ∧ Below w.heap.size w w' := by
  obtain ⟨nk, np, l, lk, lp, ll, ls, hx, hy, hz, hM⟩ := hB.has
  obtain ⟨ax, cx, rfl⟩ := hx.slice
  obtain ⟨ay, cy, rfl⟩ := hy.slice
  obtain ⟨az, cz, rfl⟩ : ∃ a c, z = .slice a l.length c := by
    rcases hz with ⟨h1, h2⟩ | ⟨g, cap, h1, _⟩
    · exact ⟨none, 0, by rw [h1, h2]; rfl⟩
    · exact ⟨_, _, h1⟩
  have HX0 : Hid (OwnAt w (w.alloc (.cells #[.slice ax nk cx, .slice ay np cy, .slice az l.length cz] 39)) [[.slice ax nk cx, .slice ay np cy, .slice az l.length cz]]) := (OwnAt.start w).push rfl _ _
  have HX : Hid (RowM w (.slice ax nk cx) nk 3 (mkV 3 patKind 1) ∧ RowM w (.slice ay np cy) np 3 (mkV 3 patPoint (1 + nk * 3))) := ⟨hx, hy⟩
  generalize hK : 1 + nk * 3 + np * 3 = K at *
  have HZ : Hid (EntsM w (.slice az l.length cz) l K) := hz
  have HM : Hid (M = kAt l K l.length) := hM
  have HK : Hid (1 + nk * 3 + np * 3 = K) := hK
  have hkb : K ≤ 200000000 := by omega
  clear hx hy hz hM hB hK
  go_enter Tryz.func15, Tryz.ntmps15
  go_wp2_with fail
  refine (heldBaseG_any _ _ nk np 1 _ (HX.out.1.keep HX0.out.below) (HX.out.2.keep HX0.out.below) lk lp (by omega)).mono ?_
  rintro e w1 ⟨rfl, hb1⟩
  rw [HK.out]
  have HX1 : Hid (OwnAt w w1 _) := HX0.out.call hb1
  have y0 : w1.cell? ⟨w.heap.size, 0, none⟩ = some (.slice ax nk cx) := (HX1.out.has 0 _ rfl 0 _ rfl).1
  have y1 : w1.cell? ⟨w.heap.size, 1, none⟩ = some (.slice ay np cy) := (HX1.out.has 0 _ rfl 1 _ rfl).1
  have y2 : w1.cell? ⟨w.heap.size, 2, none⟩ = some (.slice az l.length cz) := (HX1.out.has 0 _ rfl 2 _ rfl).1
  have hk10 : (0 : Int) ≤ (K : Int) := by omega
  clear hb1 HX0
  go_wp2_with fail
  refine (heldEntsN_any _ K l _ (HZ.out.keep HX1.out.below) ll ls hkb).mono ?_
  rintro e w2 ⟨rfl, hb2⟩
  have HB2 : Hid (Below w.heap.size w w2) := below_step HX1.out.below hb2
  clear hb2
  rw [← HM.out]
  have hk20 : (0 : Int) ≤ (M : Int) := by omega
  go_wp2
  go_ret
  exact ⟨rfl, HB2.out⟩
end Go.Proofs.YtehpdbbkbdfobabGreat

/-
  For laws over answers that are books: boxes of the law's own; what the marks leave alone.
-/
namespace Go.Proofs.YtehpdbbkbdfobabGreat
open Go.RowKit
set_option linter.unusedSimpArgs false
set_option linter.unusedVariables false

/-- Boxes: a block, what lies in it, its type. -/
abbrev Bx := Nat × Array Value × TypeId
structure Bxs (w wr : World) (bs : List Bx) : Prop where
  below : Below w.heap.size w wr
  has : ∀ p ∈ bs, wr.heap[p.1]? = some (.cells p.2.1 p.2.2 (0, 0))
theorem Bxs.lt {w wr : World} {bs : List Bx} (h : Bxs w wr bs) {p : Bx} (hp : p ∈ bs) : p.1 < wr.heap.size := (Array.getElem?_eq_some_iff.1 (h.has p hp)).1
theorem Bxs.call {w wr wy : World} {bs : List Bx} (h : Bxs w wr bs) (hb : Below wr.heap.size wr wy) : Bxs w wy bs := ⟨below_step h.below hb, fun p hp => (hb.block _ (h.lt hp)).trans (h.has p hp)⟩
theorem Bxs.drew {w wr : World} {bs : List Bx} (h : Bxs w wr bs) : Bxs w wr.drew bs := ⟨h.below.drew, h.has⟩
theorem Bxs.push {w wr : World} {bs : List Bx} (h : Bxs w wr bs) {X : Nat} {C : Array Value} {T : TypeId} (hX : wr.heap[X]? = some (.cells C T (0, 0))) : Bxs w wr ((X, C, T) :: bs) :=
  ⟨h.below, fun p hp => by
    rcases List.mem_cons.1 hp with rfl | hp
    · exact hX
    · exact h.has p hp⟩
theorem Bxs.cell {w wr : World} {bs : List Bx} (h : Bxs w wr bs) (i : Nat) {X : Nat} {C : Array Value} {T : TypeId} (hi : bs[i]? = some (X, C, T)) (j : Nat) : wr.cell? ⟨X, j, none⟩ = C[j]? := by
  have := h.has _ (List.mem_of_getElem? hi)
  dsimp only at this
  simp [World.cell?, this]
theorem Bxs.same {w wr wy : World} {bs : List Bx} (h : Bxs w wr bs) (hb : Below w.heap.size w wy) (hs : ∀ p ∈ bs, wy.heap[p.1]? = wr.heap[p.1]?) : Bxs w wy bs := ⟨hb, fun p hp => (hs p hp).trans (h.has p hp)⟩
theorem Bxs.start2 (w : World) (A C : Array Value) (T U : TypeId) : Bxs w ((w.alloc (.cells A T)).alloc (.cells C U)) [(w.heap.size, A, T), (w.heap.size + 1, C, U)] := by
  have s1 : (w.alloc (.cells A T)).heap.size = w.heap.size + 1 := by simp
  have h1 := heap_newF w (.cells A T)
  have h2 := heap_newF (w.alloc (.cells A T)) (.cells C U)
  rw [s1] at h2
  refine ⟨((Below.refl _ _).alloc (Nat.le_refl _) _).alloc (by simp) _, fun p hp => ?_⟩
  simp only [List.mem_cons, List.not_mem_nil, or_false] at hp
  rcases hp with rfl | rfl
  · exact (Below.heap_alloc _ _ _ (by omega)).trans h1
  · exact h2
theorem BookNew.lt {lo : Nat} {w : World} {x y z : Value} {ks ps : List Tri} {es : List Ent} (h : BookNew lo w x y z ks ps es) {w' : World} (hs : ∀ k, lo ≤ k → k < w.heap.size → w'.heap[k]? = w.heap[k]?) : BookNew lo w' x y z ks ps es := by
  obtain ⟨h1, h2, l, h3, h4⟩ := h
  have go : ∀ {e : TypeId} {c : Nat} {v : Value} {n : Nat} {xs : List Value}, w.ownsRow lo e c v n xs → w'.ownsRow lo e c v n xs := fun h => ownsRow_sameM h (fun k hk hl => hs k (own_ge h k hk) hl)
  exact ⟨go h1, go h2, l, h3, go h4.row, fun p hp => go (h4.flds p hp), h4.apart⟩
theorem sumN_le_mul {α : Type} (g : α → Nat) (M : Nat) : ∀ l : List α, (∀ a ∈ l, g a ≤ M) → sumN g l ≤ l.length * M
  | [], _ => by simp [sumN]
  | a :: l, h => by
    have h1 := h a (by simp)
    have h2 := sumN_le_mul g M l (fun b hb => h b (by simp [hb]))
    simp only [sumN, List.length_cons, Nat.succ_mul]
    omega
end Go.Proofs.YtehpdbbkbdfobabGreat

/-
  Changes taken in one after the other: plain facts.
-/
namespace Go.Proofs.YtehpdbbkbdfobabGreat
open Go.RowKit
set_option linter.unusedSimpArgs false
set_option linter.unusedVariables false

abbrev Bk := List Tri × List Tri × List Ent
def stepBk (b : Bk) (c : Chg) : Bk := (takeT b.1 b.2.1 b.2.2 b.1, takeT b.1 b.2.1 b.2.2 b.2.1, takeE b.1 b.2.1 b.2.2 c)
def codeBk (b : Bk) (c : Chg) : Int := takeC b.1 b.2.1 b.2.2 c
def stepsBk (b : Bk) (L : List Chg) : Bk := L.foldl stepBk b
def codesBk : Bk → List Chg → List Int
  | _, [] => []
  | b, c :: L => codeBk b c :: codesBk (stepBk b c) L
theorem stepsBk_snoc (b : Bk) (L : List Chg) (c : Chg) : stepsBk b (L ++ [c]) = stepBk (stepsBk b L) c := by simp [stepsBk]
theorem codesBk_snoc : ∀ (L : List Chg) (b : Bk) (c : Chg), codesBk b (L ++ [c]) = codesBk b L ++ [codeBk (stepsBk b L) c]
  | [], b, c => rfl
  | d :: L, b, c => by
    show codeBk b d :: codesBk (stepBk b d) (L ++ [c]) = _
    rw [codesBk_snoc L (stepBk b d) c]
    rfl
theorem codesBk_len : ∀ (L : List Chg) (b : Bk), (codesBk b L).length = L.length
  | [], b => rfl
  | c :: L, b => by show (codesBk (stepBk b c) L).length + 1 = _; rw [codesBk_len L]; rfl
theorem take_snocC {L : List Chg} {k : Nat} (h : k < L.length) : L.take (k + 1) = L.take k ++ [cat' L k] := by
  rw [List.take_succ_eq_append_getElem h]
  simp [cat', h]
/-- A book of which each step can be taken. -/
structure SmB (b : Bk) : Prop where
  n : BNames b.1 b.2.1 b.2.2
  s : BSmall b.1 b.2.1 b.2.2
  u : sumN (fun e => e.fs.length) b.2.2 ≤ 1048576
theorem putF_mem {fs : List Fld} {f x : Fld} (h : x ∈ putF fs f) : x = f ∨ x ∈ fs := by
  induction fs with
  | nil => simp [putF] at h; exact .inl h
  | cons g l ih =>
    rw [putF] at h
    split at h
    · rcases List.mem_cons.1 h with rfl | h
      · exact .inr (by simp)
      · rcases ih h with h | h
        · exact .inl h
        · exact .inr (by simp [h])
    · split at h
      · split at h
        · rcases List.mem_cons.1 h with rfl | h
          · exact .inl rfl
          · exact .inr (by simp [h])
        · exact .inr h
      · rcases List.mem_cons.1 h with rfl | h
        · exact .inl rfl
        · exact .inr h
theorem putE_all {es : List Ent} (n : ByteArray) (f : Fld) {P : ByteArray → Prop} {Q : Fld → Prop} (h : ∀ e ∈ es, P e.name ∧ ∀ x ∈ e.fs, Q x) (hn : P n) (hf : Q f) : ∀ e ∈ putE es n f, P e.name ∧ ∀ x ∈ e.fs, Q x := by
  induction es with
  | nil => intro e he; simp [putE] at he; subst he; exact ⟨hn, fun x hx => by simp at hx; subst hx; exact hf⟩
  | cons y es ih =>
    intro e he
    rw [putE] at he
    split at he
    · rcases List.mem_cons.1 he with rfl | he
      · refine ⟨(h y (by simp)).1, fun x hx => ?_⟩
        rcases putF_mem hx with rfl | hx
        · exact hf
        · exact (h y (by simp)).2 x hx
      · exact h e (by simp [he])
    · split at he
      · rcases List.mem_cons.1 he with rfl | he
        · exact h e (by simp)
        · exact ih (fun e he => h e (by simp [he])) e he
      · rcases List.mem_cons.1 he with rfl | he
        · exact ⟨hn, fun x hx => by simp at hx; subst hx; exact hf⟩
        · exact h e he
theorem takeE_all (ks ps : List Tri) (es : List Ent) (c : Chg) {P : ByteArray → Prop} {Q : Fld → Prop} (h : ∀ e ∈ es, P e.name ∧ ∀ x ∈ e.fs, Q x) (hn : P c.f) (hf : Q (fldC c)) : ∀ e ∈ takeE ks ps es c, P e.name ∧ ∀ x ∈ e.fs, Q x := by
  unfold takeE
  cases bookB ks ps es
  · intro e he; cases he
  · cases fitB ks ps c
    · exact h
    · cases decide (12 < (putE es c.f (fldC c)).length)
      · exact putE_all c.f (fldC c) h hn hf
      · exact h
theorem takeT_mem {ks ps : List Tri} {es : List Ent} {l : List Tri} {t : Tri} (h : t ∈ takeT ks ps es l) : t ∈ l := by
  unfold takeT at h
  cases hb : bookB ks ps es
  · rw [hb] at h; cases h
  · rw [hb] at h; exact h
theorem takeE_fs (ks ps : List Tri) (es : List Ent) (c : Chg) (h : ∀ e ∈ es, e.fs.length ≤ 1048576) : ∀ e ∈ takeE ks ps es c, e.fs.length ≤ 1048576 := by
  unfold takeE
  cases hb : bookB ks ps es
  · intro e he; cases he
  · cases fitB ks ps c
    · exact h
    · cases decide (12 < (putE es c.f (fldC c)).length)
      · intro e he
        have := putE_fsM c.f (fldC c) 5 (book_fs5 hb) e he
        omega
      · exact h
theorem takeE_len13 (ks ps : List Tri) (es : List Ent) (c : Chg) : (takeE ks ps es c).length ≤ 13 ∧ sumN (fun e => e.fs.length) (takeE ks ps es c) ≤ 1048576 := by
  have go : ∀ l : List Ent, l.length ≤ 13 → (∀ e ∈ l, e.fs.length ≤ 6) → l.length ≤ 13 ∧ sumN (fun e => e.fs.length) l ≤ 1048576 := fun l h1 h2 => by
    have := sumN_le_mul (fun e : Ent => e.fs.length) 6 l h2
    have := Nat.mul_le_mul_right 6 h1
    exact ⟨h1, by omega⟩
  unfold takeE
  cases hb : bookB ks ps es
  · exact go [] (by simp) (fun e he => by cases he)
  · have h12 := book_len hb
    have h5 := book_fs5 hb
    have hes := go es (by omega) (fun e he => by have := h5 e he; omega)
    have hput := go (putE es c.f (fldC c)) (by rw [putE_len c.f (fldC c) (book_names hb)]; split <;> omega) (fun e he => putE_fsM c.f (fldC c) 5 h5 e he)
    cases fitB ks ps c
    · exact hes
    · cases decide (12 < (putE es c.f (fldC c)).length)
      · exact hput
      · exact hes
theorem takeT_len (ks ps : List Tri) (es : List Ent) (l : List Tri) : (takeT ks ps es l).length ≤ l.length := by
  unfold takeT
  cases bookB ks ps es
  · simp
  · exact Nat.le_refl _
theorem SmB.step {b : Bk} {c : Chg} (h : SmB b) (hf : c.f.size ≤ 1048576) (hv : c.v.size ≤ 1048576) : SmB (stepBk b c) := by
  obtain ⟨ks, ps, es⟩ := b
  have h13 := takeE_len13 ks ps es c
  have hall := takeE_all ks ps es c (P := fun n => n.size ≤ 1048576) (Q := fun f => f.v.size ≤ 1048576) (fun e he => ⟨h.s.n e he, h.s.v e he⟩) hf hv
  have hall2 := takeE_all ks ps es c (P := fun n => n.size ≤ maxLen) (Q := fun f => f.v.size ≤ maxLen) (fun e he => ⟨(h.n.e e he).1, (h.n.e e he).2⟩) (by unfold maxLen; omega) (by show c.v.size ≤ _; unfold maxLen; omega)
  refine ⟨⟨fun t ht => h.n.k t (takeT_mem ht), fun t ht => h.n.p t (takeT_mem ht), fun e he => ⟨(hall2 e he).1, (hall2 e he).2⟩⟩, ⟨Nat.le_trans (takeT_len _ _ _ _) h.s.k, Nat.le_trans (takeT_len _ _ _ _) h.s.p, ?_, takeE_fs ks ps es c h.s.f, fun e he => (hall e he).1, fun e he => (hall e he).2⟩, h13.2⟩
  show (takeE ks ps es c).length ≤ 1048576
  omega
theorem SmB.steps {L : List Chg} : ∀ {b : Bk}, SmB b → (∀ c ∈ L, c.f.size ≤ 1048576 ∧ c.v.size ≤ 1048576) → SmB (stepsBk b L) := by
  induction L with
  | nil => intro b h _; exact h
  | cons c L ih => intro b h hc; exact ih (h.step (hc c (by simp)).1 (hc c (by simp)).2) (fun d hd => hc d (by simp [hd]))
end Go.Proofs.YtehpdbbkbdfobabGreat
