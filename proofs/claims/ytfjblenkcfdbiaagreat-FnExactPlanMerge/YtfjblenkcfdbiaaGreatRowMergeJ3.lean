/-
  For the proof of merge_holds: part 3 (Slices, Copies, Rows2).
-/
import Derived.Deep.MidRow
import Derived.Deep.RegionHeld3
import Derived.Test.YtfjblenkcfdbiaaGreatRowMergeJ2
/-
  Lists of kinds and of points: sizes, copies, comparisons.
-/
namespace Go.Proofs.YtfjblenkcfdbiaaGreat
open Go.RowKit

set_option maxHeartbeats 800000 in
theorem szKinds_any (v : Value) (l : List Tri) (left : Int) (w : World) (hv : TrisAt w v l) (hs : ∀ t ∈ l, t.s.size ≤ maxLen) (hl : 0 ≤ left) (hl' : left ≤ 1048576) :
    Calls Tryz.prog 50 #[v, .int .i64 left] w fun e w' => e = .returned (.int .i64 (szR (szTris l) left)) ∧ Below w.heap.size w w' := by
  have hv0 := hv
  obtain ⟨a, cap, rfl, hlc, hcm, hc⟩ := hv
  unfold maxLen at hcm
  by_cases hn : left - (l.length : Int) < 0
  · rw [szR_neg (by unfold szTris; omega)]
    clear hc
    go_enter Tryz.func50, Tryz.ntmps50
    go_wp2
    go_ret
    exact ⟨rfl, Below.refl _ _⟩
  · have HC : Hid (∀ i t, l[i]? = some t → ∃ b off, a = some ⟨b, off, none⟩ ∧
      w.cell? ⟨b, off + i * 3, none⟩ = some (.string t.s) ∧ w.cell? ⟨b, off + i * 3 + 1, none⟩ = some (.int .i64 t.x) ∧ w.cell? ⟨b, off + i * 3 + 2, none⟩ = some (.int .i64 t.y)) := hc
    have HS : Hid (∀ t ∈ l, t.s.size ≤ maxLen) := hs
    clear hc hs hv0
    go_enter Tryz.func50, Tryz.ntmps50
    go_wp2
    go_loopw [1, 5] (fun lf i w' => ∃ k : Nat, k ≤ l.length ∧ i = .int .i64 k ∧ lf = .int .i64 (left - l.length - sumS (l.take k)) ∧ 0 ≤ left - l.length - sumS (l.take k) ∧ Below w.heap.size w w') (fun _ i _ => l.length - (intOf i).toNat)
    case atStart => exact ⟨0, Nat.zero_le _, rfl, by simp [sumS], by simp [sumS]; omega, Below.refl _ _⟩
    case round =>
      obtain ⟨k, hk, rfl, rfl, hge, hb⟩ := hrel
      by_cases hlt : k < l.length
      · obtain ⟨b, off, rfl, c0, c1, c2⟩ := HC.out k l[k] (by simp [hlt])
        have d0 := cell_keep hb (Nat.le_refl _) c0
        have d1 := cell_keep hb (Nat.le_refl _) c1
        have d2 := cell_keep hb (Nat.le_refl _) c2
        have HT : Hid (sumS (l.take (k + 1)) = sumS (l.take k) + (l[k]).s.size) := sumS_take_succ l k hlt
        have HT' : Hid (sumS (l.take (k + 1)) ≤ sumS l) := sumS_take_le l (k + 1)
        have hsk : (l[k]).s.size ≤ maxLen := HS.out _ (List.getElem_mem hlt)
        clear c0 c1 c2 HC HS
        generalize l[k] = t at *
        have hq : 0 ≤ (sumS (l.take k) : Int) := by omega
        generalize hsum : sumS (l.take k) = sk at *
        have HQ : Hid (sumS (l.take k) = sk) := hsum
        clear hsum
        go_wp2_with fail
        refine (szKind_any t _ _ hsk (by omega) (by omega)).mono ?_
        rintro e w1 ⟨rfl, hb1⟩
        by_cases hneg : left - (l.length : Int) - (sk : Int) - (t.s.size : Int) < 0
        · rw [szR_neg (by omega)]
          go_wp2
          go_ret
          refine ⟨ret_int (szR_neg ?_).symm, below_step hb hb1⟩
          have h1 := HT.out; have h2 := HT'.out
          unfold szTris; omega
        · rw [szR_pos (by omega)]
          have hge1 : 0 ≤ left - (l.length : Int) - (sk : Int) - (t.s.size : Int) := by omega
          go_wp2
          go_roundw
          case rel => exact ⟨k + 1, by omega, by go_num, by rw [HT.out]; congr 1; omega, by rw [HT.out]; omega, below_step hb hb1⟩
          case measure => simp [intOf]; omega
      · go_wp2
        go_ret
        refine ⟨ret_int ?_, hb⟩
        rw [List.take_of_length_le (by omega)] at hge ⊢
        rw [szR_pos (by unfold szTris; omega)]
        unfold szTris
        omega

set_option maxHeartbeats 800000 in
theorem eqKinds_any (v v' : Value) (l : List Tri) (w : World) (hv : TrisAt w v l) (hv' : TrisAt w v' l) :
    Calls Tryz.prog 74 #[v, v'] w fun e w' => e = .returned (.bool true) ∧ Below w.heap.size w w' := by
  obtain ⟨a, cap, rfl, hlc, hcm, hc⟩ := hv
  obtain ⟨a', cap', rfl, hlc', hcm', hc'⟩ := hv'
  unfold maxLen at hcm hcm'
  have HC : Hid (∀ i t, l[i]? = some t → ∃ b off, a = some ⟨b, off, none⟩ ∧
      w.cell? ⟨b, off + i * 3, none⟩ = some (.string t.s) ∧ w.cell? ⟨b, off + i * 3 + 1, none⟩ = some (.int .i64 t.x) ∧ w.cell? ⟨b, off + i * 3 + 2, none⟩ = some (.int .i64 t.y)) := hc
  have HC' : Hid (∀ i t, l[i]? = some t → ∃ b off, a' = some ⟨b, off, none⟩ ∧
      w.cell? ⟨b, off + i * 3, none⟩ = some (.string t.s) ∧ w.cell? ⟨b, off + i * 3 + 1, none⟩ = some (.int .i64 t.x) ∧ w.cell? ⟨b, off + i * 3 + 2, none⟩ = some (.int .i64 t.y)) := hc'
  clear hc hc'
  go_enter Tryz.func74, Tryz.ntmps74
  go_wp2
  go_loopw [5] (fun i w' => ∃ k : Nat, k ≤ l.length ∧ i = .int .i64 k ∧ Below w.heap.size w w') (fun i _ => l.length - (intOf i).toNat)
  case atStart => exact ⟨0, Nat.zero_le _, rfl, Below.refl _ _⟩
  case round =>
    obtain ⟨k, hk, rfl, hb⟩ := hrel
    by_cases hlt : k < l.length
    · obtain ⟨b, off, rfl, c0, c1, c2⟩ := HC.out k l[k] (by simp [hlt])
      obtain ⟨b', off', rfl, c0', c1', c2'⟩ := HC'.out k l[k] (by simp [hlt])
      have d0 := cell_keep hb (Nat.le_refl _) c0
      have d1 := cell_keep hb (Nat.le_refl _) c1
      have d2 := cell_keep hb (Nat.le_refl _) c2
      have d0' := cell_keep hb (Nat.le_refl _) c0'
      have d1' := cell_keep hb (Nat.le_refl _) c1'
      have d2' := cell_keep hb (Nat.le_refl _) c2'
      clear c0 c1 c2 c0' c1' c2' HC HC'
      generalize l[k] = t at *
      have hk0 : (0 : Int) ≤ (k : Int) := by omega
      have hk1 : (k : Int) < (l.length : Int) := by omega
      go_wp2
      go_region_held3 (fun w' => w'.cell? ⟨b, off + k * 3, none⟩ = some (.string t.s) ∧ w'.cell? ⟨b, off + k * 3 + 1, none⟩ = some (.int .i64 t.x) ∧ w'.cell? ⟨b, off + k * 3 + 2, none⟩ = some (.int .i64 t.y) ∧
          w'.cell? ⟨b', off' + k * 3, none⟩ = some (.string t.s) ∧ w'.cell? ⟨b', off' + k * 3 + 1, none⟩ = some (.int .i64 t.x) ∧ w'.cell? ⟨b', off' + k * 3 + 2, none⟩ = some (.int .i64 t.y))
        (first | (simp [*, go_sem]; done) | (refine ⟨cell_keep hb1 (by simp) ?_, cell_keep hb1 (by simp) ?_, cell_keep hb1 (by simp) ?_, cell_keep hb1 (by simp) ?_, cell_keep hb1 (by simp) ?_, cell_keep hb1 (by simp) ?_⟩ <;> simp [*, go_sem]))
        (first | (go_at_call 107; refine (eqKind_any t _).mono ?_; rintro e w1 ⟨rfl, hb1⟩))
      go_wp2
      exact ⟨⟨k + 1, by omega, by go_num, below_step hb.drew hb1⟩, by simp [intOf]; omega⟩
    · go_wp2
      go_ret
      exact ⟨rfl, hb⟩
set_option maxHeartbeats 800000 in
theorem szPoints_any (v : Value) (l : List Tri) (left : Int) (w : World) (hv : TrisAt w v l) (hs : ∀ t ∈ l, t.s.size ≤ maxLen) (hl : 0 ≤ left) (hl' : left ≤ 1048576) :
    Calls Tryz.prog 51 #[v, .int .i64 left] w fun e w' => e = .returned (.int .i64 (szR (szTris l) left)) ∧ Below w.heap.size w w' := by
  have hv0 := hv
  obtain ⟨a, cap, rfl, hlc, hcm, hc⟩ := hv
  unfold maxLen at hcm
  by_cases hn : left - (l.length : Int) < 0
  · rw [szR_neg (by unfold szTris; omega)]
    clear hc
    go_enter Tryz.func51, Tryz.ntmps51
    go_wp2
    go_ret
    exact ⟨rfl, Below.refl _ _⟩
  · have HC : Hid (∀ i t, l[i]? = some t → ∃ b off, a = some ⟨b, off, none⟩ ∧
      w.cell? ⟨b, off + i * 3, none⟩ = some (.string t.s) ∧ w.cell? ⟨b, off + i * 3 + 1, none⟩ = some (.int .i64 t.x) ∧ w.cell? ⟨b, off + i * 3 + 2, none⟩ = some (.int .i64 t.y)) := hc
    have HS : Hid (∀ t ∈ l, t.s.size ≤ maxLen) := hs
    clear hc hs hv0
    go_enter Tryz.func51, Tryz.ntmps51
    go_wp2
    go_loopw [1, 5] (fun lf i w' => ∃ k : Nat, k ≤ l.length ∧ i = .int .i64 k ∧ lf = .int .i64 (left - l.length - sumS (l.take k)) ∧ 0 ≤ left - l.length - sumS (l.take k) ∧ Below w.heap.size w w') (fun _ i _ => l.length - (intOf i).toNat)
    case atStart => exact ⟨0, Nat.zero_le _, rfl, by simp [sumS], by simp [sumS]; omega, Below.refl _ _⟩
    case round =>
      obtain ⟨k, hk, rfl, rfl, hge, hb⟩ := hrel
      by_cases hlt : k < l.length
      · obtain ⟨b, off, rfl, c0, c1, c2⟩ := HC.out k l[k] (by simp [hlt])
        have d0 := cell_keep hb (Nat.le_refl _) c0
        have d1 := cell_keep hb (Nat.le_refl _) c1
        have d2 := cell_keep hb (Nat.le_refl _) c2
        have HT : Hid (sumS (l.take (k + 1)) = sumS (l.take k) + (l[k]).s.size) := sumS_take_succ l k hlt
        have HT' : Hid (sumS (l.take (k + 1)) ≤ sumS l) := sumS_take_le l (k + 1)
        have hsk : (l[k]).s.size ≤ maxLen := HS.out _ (List.getElem_mem hlt)
        clear c0 c1 c2 HC HS
        generalize l[k] = t at *
        have hq : 0 ≤ (sumS (l.take k) : Int) := by omega
        generalize hsum : sumS (l.take k) = sk at *
        have HQ : Hid (sumS (l.take k) = sk) := hsum
        clear hsum
        go_wp2_with fail
        refine (szPoint_any t _ _ hsk (by omega) (by omega)).mono ?_
        rintro e w1 ⟨rfl, hb1⟩
        by_cases hneg : left - (l.length : Int) - (sk : Int) - (t.s.size : Int) < 0
        · rw [szR_neg (by omega)]
          go_wp2
          go_ret
          refine ⟨ret_int (szR_neg ?_).symm, below_step hb hb1⟩
          have h1 := HT.out; have h2 := HT'.out
          unfold szTris; omega
        · rw [szR_pos (by omega)]
          have hge1 : 0 ≤ left - (l.length : Int) - (sk : Int) - (t.s.size : Int) := by omega
          go_wp2
          go_roundw
          case rel => exact ⟨k + 1, by omega, by go_num, by rw [HT.out]; congr 1; omega, by rw [HT.out]; omega, below_step hb hb1⟩
          case measure => simp [intOf]; omega
      · go_wp2
        go_ret
        refine ⟨ret_int ?_, hb⟩
        rw [List.take_of_length_le (by omega)] at hge ⊢
        rw [szR_pos (by unfold szTris; omega)]
        unfold szTris
        omega

set_option maxHeartbeats 800000 in
theorem eqPoints_any (v v' : Value) (l : List Tri) (w : World) (hv : TrisAt w v l) (hv' : TrisAt w v' l) :
    Calls Tryz.prog 75 #[v, v'] w fun e w' => e = .returned (.bool true) ∧ Below w.heap.size w w' := by
  obtain ⟨a, cap, rfl, hlc, hcm, hc⟩ := hv
  obtain ⟨a', cap', rfl, hlc', hcm', hc'⟩ := hv'
  unfold maxLen at hcm hcm'
  have HC : Hid (∀ i t, l[i]? = some t → ∃ b off, a = some ⟨b, off, none⟩ ∧
      w.cell? ⟨b, off + i * 3, none⟩ = some (.string t.s) ∧ w.cell? ⟨b, off + i * 3 + 1, none⟩ = some (.int .i64 t.x) ∧ w.cell? ⟨b, off + i * 3 + 2, none⟩ = some (.int .i64 t.y)) := hc
  have HC' : Hid (∀ i t, l[i]? = some t → ∃ b off, a' = some ⟨b, off, none⟩ ∧
      w.cell? ⟨b, off + i * 3, none⟩ = some (.string t.s) ∧ w.cell? ⟨b, off + i * 3 + 1, none⟩ = some (.int .i64 t.x) ∧ w.cell? ⟨b, off + i * 3 + 2, none⟩ = some (.int .i64 t.y)) := hc'
  clear hc hc'
  go_enter Tryz.func75, Tryz.ntmps75
  go_wp2
  go_loopw [5] (fun i w' => ∃ k : Nat, k ≤ l.length ∧ i = .int .i64 k ∧ Below w.heap.size w w') (fun i _ => l.length - (intOf i).toNat)
  case atStart => exact ⟨0, Nat.zero_le _, rfl, Below.refl _ _⟩
  case round =>
    obtain ⟨k, hk, rfl, hb⟩ := hrel
    by_cases hlt : k < l.length
    · obtain ⟨b, off, rfl, c0, c1, c2⟩ := HC.out k l[k] (by simp [hlt])
      obtain ⟨b', off', rfl, c0', c1', c2'⟩ := HC'.out k l[k] (by simp [hlt])
      have d0 := cell_keep hb (Nat.le_refl _) c0
      have d1 := cell_keep hb (Nat.le_refl _) c1
      have d2 := cell_keep hb (Nat.le_refl _) c2
      have d0' := cell_keep hb (Nat.le_refl _) c0'
      have d1' := cell_keep hb (Nat.le_refl _) c1'
      have d2' := cell_keep hb (Nat.le_refl _) c2'
      clear c0 c1 c2 c0' c1' c2' HC HC'
      generalize l[k] = t at *
      have hk0 : (0 : Int) ≤ (k : Int) := by omega
      have hk1 : (k : Int) < (l.length : Int) := by omega
      go_wp2
      go_region_held3 (fun w' => w'.cell? ⟨b, off + k * 3, none⟩ = some (.string t.s) ∧ w'.cell? ⟨b, off + k * 3 + 1, none⟩ = some (.int .i64 t.x) ∧ w'.cell? ⟨b, off + k * 3 + 2, none⟩ = some (.int .i64 t.y) ∧
          w'.cell? ⟨b', off' + k * 3, none⟩ = some (.string t.s) ∧ w'.cell? ⟨b', off' + k * 3 + 1, none⟩ = some (.int .i64 t.x) ∧ w'.cell? ⟨b', off' + k * 3 + 2, none⟩ = some (.int .i64 t.y))
        (first | (simp [*, go_sem]; done) | (refine ⟨cell_keep hb1 (by simp) ?_, cell_keep hb1 (by simp) ?_, cell_keep hb1 (by simp) ?_, cell_keep hb1 (by simp) ?_, cell_keep hb1 (by simp) ?_, cell_keep hb1 (by simp) ?_⟩ <;> simp [*, go_sem]))
        (first | (go_at_call 108; refine (eqPoint_any t _).mono ?_; rintro e w1 ⟨rfl, hb1⟩))
      go_wp2
      exact ⟨⟨k + 1, by omega, by go_num, below_step hb.drew hb1⟩, by simp [intOf]; omega⟩
    · go_wp2
      go_ret
      exact ⟨rfl, hb⟩
end Go.Proofs.YtfjblenkcfdbiaaGreat

/-
  Copies of lists of kinds and of points: new memory that reads the same.
-/
namespace Go.Proofs.YtfjblenkcfdbiaaGreat
open Go.RowKit

def triRow (t : Tri) : List Value := [.string t.s, .int .i64 t.x, .int .i64 t.y]

/-- The first k of l lie in block B, which has room for n of them. -/
structure Filled (w wr : World) (B n : Nat) (l : List Tri) (k : Nat) : Prop where
  below : Below w.heap.size w wr
  big : B < wr.heap.size
  old : w.heap.size ≤ B
  room : wr.there B 0 (n * 3)
  has : ∀ i t, i < k → l[i]? = some t → wr.rangeAt B (i * 3) (triRow t)

theorem there_keep {w w' : World} {B o n : Nat} (h : w.there B o n) (hb : Below w.heap.size w w') (hB : B < w.heap.size) : w'.there B o n := fun j hj => by
  rw [hb.cell (p := ⟨B, o + j, none⟩) hB, hb.frozen (p := ⟨B, o + j, none⟩) hB]; exact h j hj
theorem range_keep {w w' : World} {B o : Nat} {cs : List Value} (h : w.rangeAt B o cs) (hb : Below w.heap.size w w') (hB : B < w.heap.size) : w'.rangeAt B o cs := fun j v hv => by
  rw [hb.cell (p := ⟨B, o + j, none⟩) hB]; exact h j v hv

theorem Filled.call {w wr w1 : World} {B n : Nat} {l : List Tri} {k : Nat} (h : Filled w wr B n l k) (hb : Below wr.heap.size wr w1) : Filled w w1 B n l k :=
  ⟨below_step h.below hb, Nat.lt_of_lt_of_le h.big hb.size, h.old, there_keep h.room hb h.big, fun i t hi ht => range_keep (h.has i t hi ht) hb h.big⟩

theorem setCells_below {w : World} {B o : Nat} {vs : List Value} (C : Nat) (h : C ≤ B) : Below C w (w.setCells B o vs) := by
  induction vs generalizing w o with
  | nil => exact Below.refl _ _
  | cons v vs ih =>
    have := (Below.setCell (p := ⟨B, o, none⟩) (Below.refl C w) h v).trans (ih (w := w.setCell ⟨B, o, none⟩ v) (o := o + 1))
    simpa [World.setCells] using this

theorem Filled.store {w wr : World} {B n : Nat} {l : List Tri} {k : Nat} (h : Filled w wr B n l k) (hk : k < n) {t : Tri} (ht : l[k]? = some t) :
    Filled w (wr.setCells B (k * 3) (triRow t)) B n l (k + 1) := by
  have hthere : wr.there B (k * 3) (triRow t).length := fun j hj => by
    have := h.room (k * 3 + j) (by simp [triRow] at hj; omega)
    simpa using this
  refine ⟨h.below.trans (setCells_below _ h.old), ?_, h.old, World.there_setCells h.room _ _ _, fun i u hi hu => ?_⟩
  · exact Nat.lt_of_lt_of_le h.big (setCells_below (w := wr) (B := B) (o := k * 3) (vs := triRow t) 0 (Nat.zero_le _)).size
  · by_cases e : i = k
    · subst e
      rw [ht] at hu; cases hu
      exact World.rangeAt_setCells_same _ _ _ _ hthere
    · exact World.rangeAt_setCells_apart (h.has i u (by omega) hu) _ _ _ (.inr (.inl (by simp [triRow]; omega)))

theorem Filled.tris {w wr : World} {B : Nat} {l : List Tri} (h : Filled w wr B l.length l l.length) (hm : l.length ≤ maxLen) : TrisAt wr (.slice (some ⟨B, 0, none⟩) l.length l.length) l :=
  ⟨_, _, rfl, Nat.le_refl _, hm, fun i t ht => by
    have hi : i < l.length := (List.getElem?_eq_some_iff.1 ht).1
    have hr := h.has i t hi ht
    refine ⟨B, 0, rfl, ?_, ?_, ?_⟩
    · simpa using hr 0 (.string t.s) rfl
    · simpa using hr 1 (.int .i64 t.x) rfl
    · simpa using hr 2 (.int .i64 t.y) rfl⟩

theorem made_there (w : World) (C : Array Value) (T n : Nat) (hC : C.size = n) : (w.alloc (.cells C T)).there w.heap.size 0 n := fun j hj => by
  have h1 := World.cell?_alloc_at (w := w) C T w.heap.size j rfl
  have h2 := World.frozen?_alloc_at (w := w) C T w.heap.size j rfl
  simp only [Nat.zero_add]
  rw [h1, h2]
  simp; omega

theorem Filled.start (w : World) (C : Array Value) (T n : Nat) (l : List Tri) (hC : C.size = n * 3) : Filled w (w.alloc (.cells C T)) w.heap.size n l 0 :=
  ⟨(Below.refl _ _).alloc (Nat.le_refl _) _, by simp, Nat.le_refl _, made_there w C T _ hC, fun i _ hi => absurd hi (Nat.not_lt_zero _)⟩

theorem infoKind : (Tryz.prog.info? 116).map (fun i => (i.zero, i.size, i.bytes)) = some (some (.agg #[.string ByteArray.empty, .int .i64 0, .int .i64 0]), 3, 32) := by kernel_rfl

set_option maxHeartbeats 800000 in
theorem toKinds_own (v : Value) (l : List Tri) (w : World) (hv : TrisAt w v l) (hn : l.length ≤ 1048576) :
    Calls Tryz.prog 60 #[v] w fun e w' => e = .returned (.slice (some ⟨w.heap.size, 0, none⟩) l.length l.length) ∧ Filled w w' w.heap.size l.length l l.length := by
  obtain ⟨a, cap, rfl, hlc, hcm, hc⟩ := hv
  unfold maxLen at hcm
  have HC : Hid (∀ i t, l[i]? = some t → ∃ b off, a = some ⟨b, off, none⟩ ∧
      w.cell? ⟨b, off + i * 3, none⟩ = some (.string t.s) ∧ w.cell? ⟨b, off + i * 3 + 1, none⟩ = some (.int .i64 t.x) ∧ w.cell? ⟨b, off + i * 3 + 2, none⟩ = some (.int .i64 t.y)) := hc
  clear hc
  obtain ⟨i0, hi, hz0, hz1, hz2⟩ := info_parts infoKind
  have hmk : ∀ w : World, (Instr.makeSlice 33 (.int .i64 (l.length : Int)) (.int .i64 (l.length : Int))).run Tryz.prog w = .ok (.slice (some ⟨w.heap.size, 0, none⟩) l.length l.length) (w.alloc (.cells (madeCells (Value.agg #[.string ByteArray.empty, .int .i64 0, .int .i64 0]).cells (l.length * 3)) 116)) := fun w => by
    have h := run_make (P := Tryz.prog) w 33 116 i0 _ Tryz.underlying33 hi hz0 .i64 .i64 l.length l.length (by omega) (by omega) (by rw [hz2]; omega) (by omega)
    rw [hz1] at h
    simpa using h
  have HM : Hid ((madeCells (Value.agg #[.string ByteArray.empty, .int .i64 0, .int .i64 0]).cells (l.length * 3)).size = l.length * 3) := size_madeCells _ _
  generalize madeCells (Value.agg #[.string ByteArray.empty, .int .i64 0, .int .i64 0]).cells (l.length * 3) = C at hmk HM
  clear hi hz0 hz1 hz2
  go_enter Tryz.func60, Tryz.ntmps60
  go_wp2
  go_loopw [4] (fun i wr => ∃ k : Nat, k ≤ l.length ∧ i = .int .i64 k ∧ Filled w wr w.heap.size l.length l k) (fun i _ => l.length - (intOf i).toNat)
  case atStart => exact ⟨0, Nat.zero_le _, rfl, Filled.start w C _ _ l HM.out⟩
  case round =>
    obtain ⟨k, hk, rfl, hf⟩ := hrel
    by_cases hlt : k < l.length
    · have hk? : l[k]? = some (at' l k) := at_get hlt
      obtain ⟨b, off, rfl, c0, c1, c2⟩ := HC.out k _ hk?
      have HK : Hid (l[k]? = some (at' l k)) := hk?
      have d0 := cell_keep hf.below (Nat.le_refl _) c0
      have d1 := cell_keep hf.below (Nat.le_refl _) c1
      have d2 := cell_keep hf.below (Nat.le_refl _) c2
      clear c0 c1 c2 HC hk?
      generalize at' l k = t at *
      have hk0 : (0 : Int) ≤ (k : Int) := by omega
      have hk1 : (k : Int) < (l.length : Int) := by omega
      go_wp2_with fail
      refine (toKind_any t _).mono ?_
      rintro e w1 ⟨rfl, hb1⟩
      have hf1 := hf.call hb1
      have e0 := hf1.room (k * 3) (by omega)
      have e1 := hf1.room (k * 3 + 1) (by omega)
      have e2 := hf1.room (k * 3 + 2) (by omega)
      simp only [Nat.zero_add, Option.isSome_iff_exists] at e0 e1 e2
      obtain ⟨⟨v0, e0⟩, f0⟩ := e0
      obtain ⟨⟨v1, e1⟩, f1⟩ := e1
      obtain ⟨⟨v2, e2⟩, f2⟩ := e2
      go_wp2
      exact ⟨⟨k + 1, by omega, by go_num, hf1.store hlt HK.out⟩, by simp [intOf]; omega⟩
    · go_wp2
      go_ret
      obtain rfl : k = l.length := by omega
      exact ⟨rfl, hf⟩
theorem toKinds_any (v : Value) (l : List Tri) (w : World) (hv : TrisAt w v l) (hn : l.length ≤ 1048576) :
    Calls Tryz.prog 60 #[v] w fun e w' => e = .returned (.slice (some ⟨w.heap.size, 0, none⟩) l.length l.length) ∧ TrisAt w' (.slice (some ⟨w.heap.size, 0, none⟩) l.length l.length) l ∧ Below w.heap.size w w' ∧ w.heap.size < w'.heap.size :=
  (toKinds_own v l w hv hn).mono fun _ _ ⟨he, hf⟩ => ⟨he, hf.tris (by unfold maxLen; omega), hf.below, hf.big⟩
theorem infoPoint : (Tryz.prog.info? 118).map (fun i => (i.zero, i.size, i.bytes)) = some (some (.agg #[.string ByteArray.empty, .int .i64 0, .int .i64 0]), 3, 32) := by kernel_rfl

set_option maxHeartbeats 800000 in
theorem toPoints_own (v : Value) (l : List Tri) (w : World) (hv : TrisAt w v l) (hn : l.length ≤ 1048576) :
    Calls Tryz.prog 61 #[v] w fun e w' => e = .returned (.slice (some ⟨w.heap.size, 0, none⟩) l.length l.length) ∧ Filled w w' w.heap.size l.length l l.length := by
  obtain ⟨a, cap, rfl, hlc, hcm, hc⟩ := hv
  unfold maxLen at hcm
  have HC : Hid (∀ i t, l[i]? = some t → ∃ b off, a = some ⟨b, off, none⟩ ∧
      w.cell? ⟨b, off + i * 3, none⟩ = some (.string t.s) ∧ w.cell? ⟨b, off + i * 3 + 1, none⟩ = some (.int .i64 t.x) ∧ w.cell? ⟨b, off + i * 3 + 2, none⟩ = some (.int .i64 t.y)) := hc
  clear hc
  obtain ⟨i0, hi, hz0, hz1, hz2⟩ := info_parts infoPoint
  have hmk : ∀ w : World, (Instr.makeSlice 34 (.int .i64 (l.length : Int)) (.int .i64 (l.length : Int))).run Tryz.prog w = .ok (.slice (some ⟨w.heap.size, 0, none⟩) l.length l.length) (w.alloc (.cells (madeCells (Value.agg #[.string ByteArray.empty, .int .i64 0, .int .i64 0]).cells (l.length * 3)) 118)) := fun w => by
    have h := run_make (P := Tryz.prog) w 34 118 i0 _ Tryz.underlying34 hi hz0 .i64 .i64 l.length l.length (by omega) (by omega) (by rw [hz2]; omega) (by omega)
    rw [hz1] at h
    simpa using h
  have HM : Hid ((madeCells (Value.agg #[.string ByteArray.empty, .int .i64 0, .int .i64 0]).cells (l.length * 3)).size = l.length * 3) := size_madeCells _ _
  generalize madeCells (Value.agg #[.string ByteArray.empty, .int .i64 0, .int .i64 0]).cells (l.length * 3) = C at hmk HM
  clear hi hz0 hz1 hz2
  go_enter Tryz.func61, Tryz.ntmps61
  go_wp2
  go_loopw [4] (fun i wr => ∃ k : Nat, k ≤ l.length ∧ i = .int .i64 k ∧ Filled w wr w.heap.size l.length l k) (fun i _ => l.length - (intOf i).toNat)
  case atStart => exact ⟨0, Nat.zero_le _, rfl, Filled.start w C _ _ l HM.out⟩
  case round =>
    obtain ⟨k, hk, rfl, hf⟩ := hrel
    by_cases hlt : k < l.length
    · have hk? : l[k]? = some (at' l k) := at_get hlt
      obtain ⟨b, off, rfl, c0, c1, c2⟩ := HC.out k _ hk?
      have HK : Hid (l[k]? = some (at' l k)) := hk?
      have d0 := cell_keep hf.below (Nat.le_refl _) c0
      have d1 := cell_keep hf.below (Nat.le_refl _) c1
      have d2 := cell_keep hf.below (Nat.le_refl _) c2
      clear c0 c1 c2 HC hk?
      generalize at' l k = t at *
      have hk0 : (0 : Int) ≤ (k : Int) := by omega
      have hk1 : (k : Int) < (l.length : Int) := by omega
      go_wp2_with fail
      refine (toPoint_any t _).mono ?_
      rintro e w1 ⟨rfl, hb1⟩
      have hf1 := hf.call hb1
      have e0 := hf1.room (k * 3) (by omega)
      have e1 := hf1.room (k * 3 + 1) (by omega)
      have e2 := hf1.room (k * 3 + 2) (by omega)
      simp only [Nat.zero_add, Option.isSome_iff_exists] at e0 e1 e2
      obtain ⟨⟨v0, e0⟩, f0⟩ := e0
      obtain ⟨⟨v1, e1⟩, f1⟩ := e1
      obtain ⟨⟨v2, e2⟩, f2⟩ := e2
      go_wp2
      exact ⟨⟨k + 1, by omega, by go_num, hf1.store hlt HK.out⟩, by simp [intOf]; omega⟩
    · go_wp2
      go_ret
      obtain rfl : k = l.length := by omega
      exact ⟨rfl, hf⟩
theorem toPoints_any (v : Value) (l : List Tri) (w : World) (hv : TrisAt w v l) (hn : l.length ≤ 1048576) :
    Calls Tryz.prog 61 #[v] w fun e w' => e = .returned (.slice (some ⟨w.heap.size, 0, none⟩) l.length l.length) ∧ TrisAt w' (.slice (some ⟨w.heap.size, 0, none⟩) l.length l.length) l ∧ Below w.heap.size w w' ∧ w.heap.size < w'.heap.size :=
  (toPoints_own v l w hv hn).mono fun _ _ ⟨he, hf⟩ => ⟨he, hf.tris (by unfold maxLen; omega), hf.below, hf.big⟩
end Go.Proofs.YtfjblenkcfdbiaaGreat

/-
  A block that is filled row by row.
-/
namespace Go.Proofs.YtfjblenkcfdbiaaGreat
open Go.RowKit

/-- The rows lie in block B, which has room for n of c cells each; nothing that was in w has turned. -/
structure FilledL (w wr : World) (B n c : Nat) (rows : List (List Value)) : Prop where
  below : Below w.heap.size w wr
  big : B < wr.heap.size
  old : w.heap.size ≤ B
  room : wr.there B 0 (n * c)
  wide : ∀ r ∈ rows, r.length = c
  has : ∀ i r, rows[i]? = some r → wr.rangeAt B (i * c) r

theorem FilledL.call {w wr w1 : World} {B n c : Nat} {rows : List (List Value)} (h : FilledL w wr B n c rows) (hb : Below wr.heap.size wr w1) : FilledL w w1 B n c rows :=
  ⟨below_step h.below hb, Nat.lt_of_lt_of_le h.big hb.size, h.old, there_keep h.room hb h.big, h.wide, fun i r hr => range_keep (h.has i r hr) hb h.big⟩
theorem rows_room {k n c j : Nat} (hk : k < n) (hj : j < c) : k * c + j < n * c :=
  Nat.lt_of_lt_of_le (Nat.add_lt_add_left hj _) (by rw [← Nat.succ_mul]; exact Nat.mul_le_mul_right c hk)
theorem FilledL.store {w wr : World} {B n c : Nat} {rows : List (List Value)} (h : FilledL w wr B n c rows) (hk : rows.length < n) {r : List Value} (hr : r.length = c) :
    FilledL w (wr.setCells B (rows.length * c) r) B n c (rows ++ [r]) := by
  have hthere : wr.there B (rows.length * c) r.length := fun j hj => by
    have := h.room (rows.length * c + j) (rows_room hk (hr ▸ hj))
    simpa using this
  refine ⟨h.below.trans (setCells_below _ h.old), ?_, h.old, World.there_setCells h.room _ _ _, fun x hx => ?_, fun i x hx => ?_⟩
  · exact Nat.lt_of_lt_of_le h.big (setCells_below (w := wr) (B := B) (o := rows.length * c) (vs := r) 0 (Nat.zero_le _)).size
  · rcases List.mem_append.1 hx with hx | hx
    · exact h.wide x hx
    · simp at hx; subst hx; exact hr
  · by_cases e : i < rows.length
    · rw [List.getElem?_append_left e] at hx
      refine World.rangeAt_setCells_apart (h.has i x hx) _ _ _ (.inr (.inl ?_))
      have h1 := h.wide x (List.mem_of_getElem? hx)
      have h2 : (i + 1) * c ≤ rows.length * c := Nat.mul_le_mul_right c e
      rw [Nat.succ_mul] at h2
      omega
    · rw [List.getElem?_append_right (by omega)] at hx
      have hi0 : i - rows.length = 0 := by
        have := (List.getElem?_eq_some_iff.1 hx).1
        simp at this; omega
      rw [hi0] at hx
      simp at hx; subst hx
      have e1 : i = rows.length := by omega
      subst e1
      exact World.rangeAt_setCells_same _ _ _ _ hthere
theorem FilledL.start (w : World) (C : Array Value) (T n c : Nat) (hC : C.size = n * c) : FilledL w (w.alloc (.cells C T)) w.heap.size n c [] :=
  ⟨(Below.refl _ _).alloc (Nat.le_refl _) _, by simp, Nat.le_refl _, made_there w C T _ hC, fun r hr => by simp at hr, fun i r hr => by simp at hr⟩
/-- A cell's place in the block: it can be written. -/
theorem FilledL.free {w wr : World} {B n c : Nat} {rows : List (List Value)} (h : FilledL w wr B n c rows) {k j : Nat} (hk : k < n) (hj : j < c) : (∃ v, wr.cell? ⟨B, k * c + j, none⟩ = some v) ∧ wr.frozen? ⟨B, k * c + j, none⟩ = false := by
  have := h.room (k * c + j) (rows_room hk hj)
  simpa [Option.isSome_iff_exists] using this
theorem FilledL.cell {w wr : World} {B n c : Nat} {rows : List (List Value)} (h : FilledL w wr B n c rows) {i j : Nat} {r : List Value} {v : Value} (hr : rows[i]? = some r) (hv : r[j]? = some v) : wr.cell? ⟨B, i * c + j, none⟩ = some v := h.has i r hr j v hv
end Go.Proofs.YtfjblenkcfdbiaaGreat
