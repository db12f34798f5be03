/-
  For the proof of print_card: part 9 (Slices, Copies, Names, Lists, Points).
-/
import Derived.Deep.MidRow
import Derived.Deep.RegionHeld3
import Derived.Deep.QuietTactic
import Derived.BigQuiet
import Derived.Test.YthccipaobeapbabGreatDoorRowPrintJ8
/-
  Lists of kinds and of points: sizes, copies, comparisons.
-/
namespace Go.Proofs.YthccipaobeapbabGreatDoor
open Go.RowKit

set_option maxHeartbeats 800000 in
theorem szKinds_any (v : Value) (l : List Tri) (left : Int) (w : World) (hv : TrisAt w v l) (hs : ∀ t ∈ l, t.s.size ≤ maxLen) (hl : 0 ≤ left) (hl' : left ≤ 1048576) :
    Calls Tryz.prog 78 #[v, .int .i64 left] w fun e w' => e = .returned (.int .i64 (szR (szTris l) left)) ∧ Below w.heap.size w w' := by
  have hv0 := hv
  obtain ⟨a, cap, rfl, hlc, hcm, hc⟩ := hv
  unfold maxLen at hcm
  by_cases hn : left - (l.length : Int) < 0
  · rw [szR_neg (by unfold szTris; omega)]
    clear hc
    go_enter Tryz.func78, Tryz.ntmps78
    go_wp2
    go_ret
    exact ⟨rfl, Below.refl _ _⟩
  · have HC : Hid (∀ i t, l[i]? = some t → ∃ b off, a = some ⟨b, off, none⟩ ∧
      w.cell? ⟨b, off + i * 3, none⟩ = some (.string t.s) ∧ w.cell? ⟨b, off + i * 3 + 1, none⟩ = some (.int .i64 t.x) ∧ w.cell? ⟨b, off + i * 3 + 2, none⟩ = some (.int .i64 t.y)) := hc
    have HS : Hid (∀ t ∈ l, t.s.size ≤ maxLen) := hs
    clear hc hs hv0
    go_enter Tryz.func78, Tryz.ntmps78
    go_wp2
    go_loopw [1, 5] (fun lf i w' => ∃ k : Nat, k ≤ l.length ∧ i = .int .i64 k ∧ lf = .int .i64 (left - l.length - sumS (l.take k)) ∧ 0 ≤ left - l.length - sumS (l.take k) ∧ Below w.heap.size w w') (fun _ i _ => l.length - (intOf i).toNat)
    case atStart => exact ⟨0, Nat.zero_le _, rfl, by simp [sumS], by simp [sumS]; omega, Below.refl _ _⟩
    case round =>
      obtain ⟨k, hk, rfl, rfl, hge, hb⟩ := hrel
      by_cases hlt : k < l.length
      · obtain ⟨b, off, rfl, c0, c1, c2⟩ := HC.out k l[k] (by simp [hlt])
        have d0 := cell_keep hb (Nat.le_refl _) c0
        have d1 := cell_keep hb (Nat.le_refl _) c1
        have d2 := cell_keep hb (Nat.le_refl _) c2
        have HT : Hid (sumS (l.take (k + 1)) = sumS (l.take k) + (l[k]).s.size) := sumS_take_succ l k hlt
        have HT' : Hid (sumS (l.take (k + 1)) ≤ sumS l) := sumS_take_le l (k + 1)
        have hsk : (l[k]).s.size ≤ maxLen := HS.out _ (List.getElem_mem hlt)
        clear c0 c1 c2 HC HS
        generalize l[k] = t at *
        have hq : 0 ≤ (sumS (l.take k) : Int) := by omega
        generalize hsum : sumS (l.take k) = sk at *
        have HQ : Hid (sumS (l.take k) = sk) := hsum
        clear hsum
        go_wp2_with fail
        refine (szKind_any t _ _ hsk (by omega) (by omega)).mono ?_
        rintro e w1 ⟨rfl, hb1⟩
        by_cases hneg : left - (l.length : Int) - (sk : Int) - (t.s.size : Int) < 0
        · rw [szR_neg (by omega)]
          go_wp2
          go_ret
          refine ⟨ret_int (szR_neg ?_).symm, below_step hb hb1⟩
          have h1 := HT.out; have h2 := HT'.out
          unfold szTris; omega
        · rw [szR_pos (by omega)]
          have hge1 : 0 ≤ left - (l.length : Int) - (sk : Int) - (t.s.size : Int) := by omega
          go_wp2
          go_roundw
          case rel => exact ⟨k + 1, by omega, by go_num, by rw [HT.out]; congr 1; omega, by rw [HT.out]; omega, below_step hb hb1⟩
          case measure => simp [intOf]; omega
      · go_wp2
        go_ret
        refine ⟨ret_int ?_, hb⟩
        rw [List.take_of_length_le (by omega)] at hge ⊢
        rw [szR_pos (by unfold szTris; omega)]
        unfold szTris
        omega

set_option maxHeartbeats 800000 in
theorem eqKinds_any (v v' : Value) (l : List Tri) (w : World) (hv : TrisAt w v l) (hv' : TrisAt w v' l) :
    Calls Tryz.prog 69 #[v, v'] w fun e w' => e = .returned (.bool true) ∧ Below w.heap.size w w' := by
  obtain ⟨a, cap, rfl, hlc, hcm, hc⟩ := hv
  obtain ⟨a', cap', rfl, hlc', hcm', hc'⟩ := hv'
  unfold maxLen at hcm hcm'
  have HC : Hid (∀ i t, l[i]? = some t → ∃ b off, a = some ⟨b, off, none⟩ ∧
      w.cell? ⟨b, off + i * 3, none⟩ = some (.string t.s) ∧ w.cell? ⟨b, off + i * 3 + 1, none⟩ = some (.int .i64 t.x) ∧ w.cell? ⟨b, off + i * 3 + 2, none⟩ = some (.int .i64 t.y)) := hc
  have HC' : Hid (∀ i t, l[i]? = some t → ∃ b off, a' = some ⟨b, off, none⟩ ∧
      w.cell? ⟨b, off + i * 3, none⟩ = some (.string t.s) ∧ w.cell? ⟨b, off + i * 3 + 1, none⟩ = some (.int .i64 t.x) ∧ w.cell? ⟨b, off + i * 3 + 2, none⟩ = some (.int .i64 t.y)) := hc'
  clear hc hc'
  go_enter Tryz.func69, Tryz.ntmps69
  go_wp2
  go_loopw [5] (fun i w' => ∃ k : Nat, k ≤ l.length ∧ i = .int .i64 k ∧ Below w.heap.size w w') (fun i _ => l.length - (intOf i).toNat)
  case atStart => exact ⟨0, Nat.zero_le _, rfl, Below.refl _ _⟩
  case round =>
    obtain ⟨k, hk, rfl, hb⟩ := hrel
    by_cases hlt : k < l.length
    · obtain ⟨b, off, rfl, c0, c1, c2⟩ := HC.out k l[k] (by simp [hlt])
      obtain ⟨b', off', rfl, c0', c1', c2'⟩ := HC'.out k l[k] (by simp [hlt])
      have d0 := cell_keep hb (Nat.le_refl _) c0
      have d1 := cell_keep hb (Nat.le_refl _) c1
      have d2 := cell_keep hb (Nat.le_refl _) c2
      have d0' := cell_keep hb (Nat.le_refl _) c0'
      have d1' := cell_keep hb (Nat.le_refl _) c1'
      have d2' := cell_keep hb (Nat.le_refl _) c2'
      clear c0 c1 c2 c0' c1' c2' HC HC'
      generalize l[k] = t at *
      have hk0 : (0 : Int) ≤ (k : Int) := by omega
      have hk1 : (k : Int) < (l.length : Int) := by omega
      go_wp2
      go_region_held3 (fun w' => w'.cell? ⟨b, off + k * 3, none⟩ = some (.string t.s) ∧ w'.cell? ⟨b, off + k * 3 + 1, none⟩ = some (.int .i64 t.x) ∧ w'.cell? ⟨b, off + k * 3 + 2, none⟩ = some (.int .i64 t.y) ∧
          w'.cell? ⟨b', off' + k * 3, none⟩ = some (.string t.s) ∧ w'.cell? ⟨b', off' + k * 3 + 1, none⟩ = some (.int .i64 t.x) ∧ w'.cell? ⟨b', off' + k * 3 + 2, none⟩ = some (.int .i64 t.y))
        (first | (simp [*, go_sem]; done) | (refine ⟨cell_keep hb1 (by simp) ?_, cell_keep hb1 (by simp) ?_, cell_keep hb1 (by simp) ?_, cell_keep hb1 (by simp) ?_, cell_keep hb1 (by simp) ?_, cell_keep hb1 (by simp) ?_⟩ <;> simp [*, go_sem]))
        (first | (go_at_call 55; refine (eqKind_any t _).mono ?_; rintro e w1 ⟨rfl, hb1⟩))
      go_wp2
      exact ⟨⟨k + 1, by omega, by go_num, below_step hb.drew hb1⟩, by simp [intOf]; omega⟩
    · go_wp2
      go_ret
      exact ⟨rfl, hb⟩
set_option maxHeartbeats 800000 in
theorem szPoints_any (v : Value) (l : List Tri) (left : Int) (w : World) (hv : TrisAt w v l) (hs : ∀ t ∈ l, t.s.size ≤ maxLen) (hl : 0 ≤ left) (hl' : left ≤ 1048576) :
    Calls Tryz.prog 79 #[v, .int .i64 left] w fun e w' => e = .returned (.int .i64 (szR (szTris l) left)) ∧ Below w.heap.size w w' := by
  have hv0 := hv
  obtain ⟨a, cap, rfl, hlc, hcm, hc⟩ := hv
  unfold maxLen at hcm
  by_cases hn : left - (l.length : Int) < 0
  · rw [szR_neg (by unfold szTris; omega)]
    clear hc
    go_enter Tryz.func79, Tryz.ntmps79
    go_wp2
    go_ret
    exact ⟨rfl, Below.refl _ _⟩
  · have HC : Hid (∀ i t, l[i]? = some t → ∃ b off, a = some ⟨b, off, none⟩ ∧
      w.cell? ⟨b, off + i * 3, none⟩ = some (.string t.s) ∧ w.cell? ⟨b, off + i * 3 + 1, none⟩ = some (.int .i64 t.x) ∧ w.cell? ⟨b, off + i * 3 + 2, none⟩ = some (.int .i64 t.y)) := hc
    have HS : Hid (∀ t ∈ l, t.s.size ≤ maxLen) := hs
    clear hc hs hv0
    go_enter Tryz.func79, Tryz.ntmps79
    go_wp2
    go_loopw [1, 5] (fun lf i w' => ∃ k : Nat, k ≤ l.length ∧ i = .int .i64 k ∧ lf = .int .i64 (left - l.length - sumS (l.take k)) ∧ 0 ≤ left - l.length - sumS (l.take k) ∧ Below w.heap.size w w') (fun _ i _ => l.length - (intOf i).toNat)
    case atStart => exact ⟨0, Nat.zero_le _, rfl, by simp [sumS], by simp [sumS]; omega, Below.refl _ _⟩
    case round =>
      obtain ⟨k, hk, rfl, rfl, hge, hb⟩ := hrel
      by_cases hlt : k < l.length
      · obtain ⟨b, off, rfl, c0, c1, c2⟩ := HC.out k l[k] (by simp [hlt])
        have d0 := cell_keep hb (Nat.le_refl _) c0
        have d1 := cell_keep hb (Nat.le_refl _) c1
        have d2 := cell_keep hb (Nat.le_refl _) c2
        have HT : Hid (sumS (l.take (k + 1)) = sumS (l.take k) + (l[k]).s.size) := sumS_take_succ l k hlt
        have HT' : Hid (sumS (l.take (k + 1)) ≤ sumS l) := sumS_take_le l (k + 1)
        have hsk : (l[k]).s.size ≤ maxLen := HS.out _ (List.getElem_mem hlt)
        clear c0 c1 c2 HC HS
        generalize l[k] = t at *
        have hq : 0 ≤ (sumS (l.take k) : Int) := by omega
        generalize hsum : sumS (l.take k) = sk at *
        have HQ : Hid (sumS (l.take k) = sk) := hsum
        clear hsum
        go_wp2_with fail
        refine (szPoint_any t _ _ hsk (by omega) (by omega)).mono ?_
        rintro e w1 ⟨rfl, hb1⟩
        by_cases hneg : left - (l.length : Int) - (sk : Int) - (t.s.size : Int) < 0
        · rw [szR_neg (by omega)]
          go_wp2
          go_ret
          refine ⟨ret_int (szR_neg ?_).symm, below_step hb hb1⟩
          have h1 := HT.out; have h2 := HT'.out
          unfold szTris; omega
        · rw [szR_pos (by omega)]
          have hge1 : 0 ≤ left - (l.length : Int) - (sk : Int) - (t.s.size : Int) := by omega
          go_wp2
          go_roundw
          case rel => exact ⟨k + 1, by omega, by go_num, by rw [HT.out]; congr 1; omega, by rw [HT.out]; omega, below_step hb hb1⟩
          case measure => simp [intOf]; omega
      · go_wp2
        go_ret
        refine ⟨ret_int ?_, hb⟩
        rw [List.take_of_length_le (by omega)] at hge ⊢
        rw [szR_pos (by unfold szTris; omega)]
        unfold szTris
        omega

set_option maxHeartbeats 800000 in
theorem eqPoints_any (v v' : Value) (l : List Tri) (w : World) (hv : TrisAt w v l) (hv' : TrisAt w v' l) :
    Calls Tryz.prog 70 #[v, v'] w fun e w' => e = .returned (.bool true) ∧ Below w.heap.size w w' := by
  obtain ⟨a, cap, rfl, hlc, hcm, hc⟩ := hv
  obtain ⟨a', cap', rfl, hlc', hcm', hc'⟩ := hv'
  unfold maxLen at hcm hcm'
  have HC : Hid (∀ i t, l[i]? = some t → ∃ b off, a = some ⟨b, off, none⟩ ∧
      w.cell? ⟨b, off + i * 3, none⟩ = some (.string t.s) ∧ w.cell? ⟨b, off + i * 3 + 1, none⟩ = some (.int .i64 t.x) ∧ w.cell? ⟨b, off + i * 3 + 2, none⟩ = some (.int .i64 t.y)) := hc
  have HC' : Hid (∀ i t, l[i]? = some t → ∃ b off, a' = some ⟨b, off, none⟩ ∧
      w.cell? ⟨b, off + i * 3, none⟩ = some (.string t.s) ∧ w.cell? ⟨b, off + i * 3 + 1, none⟩ = some (.int .i64 t.x) ∧ w.cell? ⟨b, off + i * 3 + 2, none⟩ = some (.int .i64 t.y)) := hc'
  clear hc hc'
  go_enter Tryz.func70, Tryz.ntmps70
  go_wp2
  go_loopw [5] (fun i w' => ∃ k : Nat, k ≤ l.length ∧ i = .int .i64 k ∧ Below w.heap.size w w') (fun i _ => l.length - (intOf i).toNat)
  case atStart => exact ⟨0, Nat.zero_le _, rfl, Below.refl _ _⟩
  case round =>
    obtain ⟨k, hk, rfl, hb⟩ := hrel
    by_cases hlt : k < l.length
    · obtain ⟨b, off, rfl, c0, c1, c2⟩ := HC.out k l[k] (by simp [hlt])
      obtain ⟨b', off', rfl, c0', c1', c2'⟩ := HC'.out k l[k] (by simp [hlt])
      have d0 := cell_keep hb (Nat.le_refl _) c0
      have d1 := cell_keep hb (Nat.le_refl _) c1
      have d2 := cell_keep hb (Nat.le_refl _) c2
      have d0' := cell_keep hb (Nat.le_refl _) c0'
      have d1' := cell_keep hb (Nat.le_refl _) c1'
      have d2' := cell_keep hb (Nat.le_refl _) c2'
      clear c0 c1 c2 c0' c1' c2' HC HC'
      generalize l[k] = t at *
      have hk0 : (0 : Int) ≤ (k : Int) := by omega
      have hk1 : (k : Int) < (l.length : Int) := by omega
      go_wp2
      go_region_held3 (fun w' => w'.cell? ⟨b, off + k * 3, none⟩ = some (.string t.s) ∧ w'.cell? ⟨b, off + k * 3 + 1, none⟩ = some (.int .i64 t.x) ∧ w'.cell? ⟨b, off + k * 3 + 2, none⟩ = some (.int .i64 t.y) ∧
          w'.cell? ⟨b', off' + k * 3, none⟩ = some (.string t.s) ∧ w'.cell? ⟨b', off' + k * 3 + 1, none⟩ = some (.int .i64 t.x) ∧ w'.cell? ⟨b', off' + k * 3 + 2, none⟩ = some (.int .i64 t.y))
        (first | (simp [*, go_sem]; done) | (refine ⟨cell_keep hb1 (by simp) ?_, cell_keep hb1 (by simp) ?_, cell_keep hb1 (by simp) ?_, cell_keep hb1 (by simp) ?_, cell_keep hb1 (by simp) ?_, cell_keep hb1 (by simp) ?_⟩ <;> simp [*, go_sem]))
        (first | (go_at_call 121; refine (eqPoint_any t _).mono ?_; rintro e w1 ⟨rfl, hb1⟩))
      go_wp2
      exact ⟨⟨k + 1, by omega, by go_num, below_step hb.drew hb1⟩, by simp [intOf]; omega⟩
    · go_wp2
      go_ret
      exact ⟨rfl, hb⟩
end Go.Proofs.YthccipaobeapbabGreatDoor

/-
  Copies of lists of kinds and of points: new memory that reads the same.
-/
namespace Go.Proofs.YthccipaobeapbabGreatDoor
open Go.RowKit

def triRow (t : Tri) : List Value := [.string t.s, .int .i64 t.x, .int .i64 t.y]

/-- The first k of l lie in block B, which has room for n of them. -/
structure Filled (w wr : World) (B n : Nat) (l : List Tri) (k : Nat) : Prop where
  below : Below w.heap.size w wr
  big : B < wr.heap.size
  old : w.heap.size ≤ B
  room : wr.there B 0 (n * 3)
  has : ∀ i t, i < k → l[i]? = some t → wr.rangeAt B (i * 3) (triRow t)

theorem there_keep {w w' : World} {B o n : Nat} (h : w.there B o n) (hb : Below w.heap.size w w') (hB : B < w.heap.size) : w'.there B o n := fun j hj => by
  rw [hb.cell (p := ⟨B, o + j, none⟩) hB, hb.frozen (p := ⟨B, o + j, none⟩) hB]; exact h j hj
theorem range_keep {w w' : World} {B o : Nat} {cs : List Value} (h : w.rangeAt B o cs) (hb : Below w.heap.size w w') (hB : B < w.heap.size) : w'.rangeAt B o cs := fun j v hv => by
  rw [hb.cell (p := ⟨B, o + j, none⟩) hB]; exact h j v hv

theorem Filled.call {w wr w1 : World} {B n : Nat} {l : List Tri} {k : Nat} (h : Filled w wr B n l k) (hb : Below wr.heap.size wr w1) : Filled w w1 B n l k :=
  ⟨below_step h.below hb, Nat.lt_of_lt_of_le h.big hb.size, h.old, there_keep h.room hb h.big, fun i t hi ht => range_keep (h.has i t hi ht) hb h.big⟩

theorem setCells_below {w : World} {B o : Nat} {vs : List Value} (C : Nat) (h : C ≤ B) : Below C w (w.setCells B o vs) := by
  induction vs generalizing w o with
  | nil => exact Below.refl _ _
  | cons v vs ih =>
    have := (Below.setCell (p := ⟨B, o, none⟩) (Below.refl C w) h v).trans (ih (w := w.setCell ⟨B, o, none⟩ v) (o := o + 1))
    simpa [World.setCells] using this

theorem Filled.store {w wr : World} {B n : Nat} {l : List Tri} {k : Nat} (h : Filled w wr B n l k) (hk : k < n) {t : Tri} (ht : l[k]? = some t) :
    Filled w (wr.setCells B (k * 3) (triRow t)) B n l (k + 1) := by
  have hthere : wr.there B (k * 3) (triRow t).length := fun j hj => by
    have := h.room (k * 3 + j) (by simp [triRow] at hj; omega)
    simpa using this
  refine ⟨h.below.trans (setCells_below _ h.old), ?_, h.old, World.there_setCells h.room _ _ _, fun i u hi hu => ?_⟩
  · exact Nat.lt_of_lt_of_le h.big (setCells_below (w := wr) (B := B) (o := k * 3) (vs := triRow t) 0 (Nat.zero_le _)).size
  · by_cases e : i = k
    · subst e
      rw [ht] at hu; cases hu
      exact World.rangeAt_setCells_same _ _ _ _ hthere
    · exact World.rangeAt_setCells_apart (h.has i u (by omega) hu) _ _ _ (.inr (.inl (by simp [triRow]; omega)))

theorem Filled.tris {w wr : World} {B : Nat} {l : List Tri} (h : Filled w wr B l.length l l.length) (hm : l.length ≤ maxLen) : TrisAt wr (.slice (some ⟨B, 0, none⟩) l.length l.length) l :=
  ⟨_, _, rfl, Nat.le_refl _, hm, fun i t ht => by
    have hi : i < l.length := (List.getElem?_eq_some_iff.1 ht).1
    have hr := h.has i t hi ht
    refine ⟨B, 0, rfl, ?_, ?_, ?_⟩
    · simpa using hr 0 (.string t.s) rfl
    · simpa using hr 1 (.int .i64 t.x) rfl
    · simpa using hr 2 (.int .i64 t.y) rfl⟩

theorem made_there (w : World) (C : Array Value) (T n : Nat) (hC : C.size = n) : (w.alloc (.cells C T)).there w.heap.size 0 n := fun j hj => by
  have h1 := World.cell?_alloc_at (w := w) C T w.heap.size j rfl
  have h2 := World.frozen?_alloc_at (w := w) C T w.heap.size j rfl
  simp only [Nat.zero_add]
  rw [h1, h2]
  simp; omega

theorem Filled.start (w : World) (C : Array Value) (T n : Nat) (l : List Tri) (hC : C.size = n * 3) : Filled w (w.alloc (.cells C T)) w.heap.size n l 0 :=
  ⟨(Below.refl _ _).alloc (Nat.le_refl _) _, by simp, Nat.le_refl _, made_there w C T _ hC, fun i _ hi => absurd hi (Nat.not_lt_zero _)⟩

theorem infoKind : (Tryz.prog.info? 49).map (fun i => (i.zero, i.size, i.bytes)) = some (some (.agg #[.string ByteArray.empty, .int .i64 0, .int .i64 0]), 3, 32) := by kernel_rfl

set_option maxHeartbeats 800000 in
theorem toKinds_own (v : Value) (l : List Tri) (w : World) (hv : TrisAt w v l) (hn : l.length ≤ 1048576) :
    Calls Tryz.prog 87 #[v] w fun e w' => e = .returned (.slice (some ⟨w.heap.size, 0, none⟩) l.length l.length) ∧ Filled w w' w.heap.size l.length l l.length := by
  obtain ⟨a, cap, rfl, hlc, hcm, hc⟩ := hv
  unfold maxLen at hcm
  have HC : Hid (∀ i t, l[i]? = some t → ∃ b off, a = some ⟨b, off, none⟩ ∧
      w.cell? ⟨b, off + i * 3, none⟩ = some (.string t.s) ∧ w.cell? ⟨b, off + i * 3 + 1, none⟩ = some (.int .i64 t.x) ∧ w.cell? ⟨b, off + i * 3 + 2, none⟩ = some (.int .i64 t.y)) := hc
  clear hc
  obtain ⟨i0, hi, hz0, hz1, hz2⟩ := info_parts infoKind
  have hmk : ∀ w : World, (Instr.makeSlice 22 (.int .i64 (l.length : Int)) (.int .i64 (l.length : Int))).run Tryz.prog w = .ok (.slice (some ⟨w.heap.size, 0, none⟩) l.length l.length) (w.alloc (.cells (madeCells (Value.agg #[.string ByteArray.empty, .int .i64 0, .int .i64 0]).cells (l.length * 3)) 49)) := fun w => by
    have h := run_make (P := Tryz.prog) w 22 49 i0 _ Tryz.underlying22 hi hz0 .i64 .i64 l.length l.length (by omega) (by omega) (by rw [hz2]; omega) (by omega)
    rw [hz1] at h
    simpa using h
  have HM : Hid ((madeCells (Value.agg #[.string ByteArray.empty, .int .i64 0, .int .i64 0]).cells (l.length * 3)).size = l.length * 3) := size_madeCells _ _
  generalize madeCells (Value.agg #[.string ByteArray.empty, .int .i64 0, .int .i64 0]).cells (l.length * 3) = C at hmk HM
  clear hi hz0 hz1 hz2
  go_enter Tryz.func87, Tryz.ntmps87
  go_wp2
  go_loopw [4] (fun i wr => ∃ k : Nat, k ≤ l.length ∧ i = .int .i64 k ∧ Filled w wr w.heap.size l.length l k) (fun i _ => l.length - (intOf i).toNat)
  case atStart => exact ⟨0, Nat.zero_le _, rfl, Filled.start w C _ _ l HM.out⟩
  case round =>
    obtain ⟨k, hk, rfl, hf⟩ := hrel
    by_cases hlt : k < l.length
    · have hk? : l[k]? = some (at' l k) := at_get hlt
      obtain ⟨b, off, rfl, c0, c1, c2⟩ := HC.out k _ hk?
      have HK : Hid (l[k]? = some (at' l k)) := hk?
      have d0 := cell_keep hf.below (Nat.le_refl _) c0
      have d1 := cell_keep hf.below (Nat.le_refl _) c1
      have d2 := cell_keep hf.below (Nat.le_refl _) c2
      clear c0 c1 c2 HC hk?
      generalize at' l k = t at *
      have hk0 : (0 : Int) ≤ (k : Int) := by omega
      have hk1 : (k : Int) < (l.length : Int) := by omega
      go_wp2_with fail
      refine (toKind_any t _).mono ?_
      rintro e w1 ⟨rfl, hb1⟩
      have hf1 := hf.call hb1
      have e0 := hf1.room (k * 3) (by omega)
      have e1 := hf1.room (k * 3 + 1) (by omega)
      have e2 := hf1.room (k * 3 + 2) (by omega)
      simp only [Nat.zero_add, Option.isSome_iff_exists] at e0 e1 e2
      obtain ⟨⟨v0, e0⟩, f0⟩ := e0
      obtain ⟨⟨v1, e1⟩, f1⟩ := e1
      obtain ⟨⟨v2, e2⟩, f2⟩ := e2
      go_wp2
      exact ⟨⟨k + 1, by omega, by go_num, hf1.store hlt HK.out⟩, by simp [intOf]; omega⟩
    · go_wp2
      go_ret
      obtain rfl : k = l.length := by omega
      exact ⟨rfl, hf⟩
theorem toKinds_any (v : Value) (l : List Tri) (w : World) (hv : TrisAt w v l) (hn : l.length ≤ 1048576) :
    Calls Tryz.prog 87 #[v] w fun e w' => e = .returned (.slice (some ⟨w.heap.size, 0, none⟩) l.length l.length) ∧ TrisAt w' (.slice (some ⟨w.heap.size, 0, none⟩) l.length l.length) l ∧ Below w.heap.size w w' ∧ w.heap.size < w'.heap.size :=
  (toKinds_own v l w hv hn).mono fun _ _ ⟨he, hf⟩ => ⟨he, hf.tris (by unfold maxLen; omega), hf.below, hf.big⟩
theorem infoPoint : (Tryz.prog.info? 80).map (fun i => (i.zero, i.size, i.bytes)) = some (some (.agg #[.string ByteArray.empty, .int .i64 0, .int .i64 0]), 3, 32) := by kernel_rfl

set_option maxHeartbeats 800000 in
theorem toPoints_own (v : Value) (l : List Tri) (w : World) (hv : TrisAt w v l) (hn : l.length ≤ 1048576) :
    Calls Tryz.prog 88 #[v] w fun e w' => e = .returned (.slice (some ⟨w.heap.size, 0, none⟩) l.length l.length) ∧ Filled w w' w.heap.size l.length l l.length := by
  obtain ⟨a, cap, rfl, hlc, hcm, hc⟩ := hv
  unfold maxLen at hcm
  have HC : Hid (∀ i t, l[i]? = some t → ∃ b off, a = some ⟨b, off, none⟩ ∧
      w.cell? ⟨b, off + i * 3, none⟩ = some (.string t.s) ∧ w.cell? ⟨b, off + i * 3 + 1, none⟩ = some (.int .i64 t.x) ∧ w.cell? ⟨b, off + i * 3 + 2, none⟩ = some (.int .i64 t.y)) := hc
  clear hc
  obtain ⟨i0, hi, hz0, hz1, hz2⟩ := info_parts infoPoint
  have hmk : ∀ w : World, (Instr.makeSlice 23 (.int .i64 (l.length : Int)) (.int .i64 (l.length : Int))).run Tryz.prog w = .ok (.slice (some ⟨w.heap.size, 0, none⟩) l.length l.length) (w.alloc (.cells (madeCells (Value.agg #[.string ByteArray.empty, .int .i64 0, .int .i64 0]).cells (l.length * 3)) 80)) := fun w => by
    have h := run_make (P := Tryz.prog) w 23 80 i0 _ Tryz.underlying23 hi hz0 .i64 .i64 l.length l.length (by omega) (by omega) (by rw [hz2]; omega) (by omega)
    rw [hz1] at h
    simpa using h
  have HM : Hid ((madeCells (Value.agg #[.string ByteArray.empty, .int .i64 0, .int .i64 0]).cells (l.length * 3)).size = l.length * 3) := size_madeCells _ _
  generalize madeCells (Value.agg #[.string ByteArray.empty, .int .i64 0, .int .i64 0]).cells (l.length * 3) = C at hmk HM
  clear hi hz0 hz1 hz2
  go_enter Tryz.func88, Tryz.ntmps88
  go_wp2
  go_loopw [4] (fun i wr => ∃ k : Nat, k ≤ l.length ∧ i = .int .i64 k ∧ Filled w wr w.heap.size l.length l k) (fun i _ => l.length - (intOf i).toNat)
  case atStart => exact ⟨0, Nat.zero_le _, rfl, Filled.start w C _ _ l HM.out⟩
  case round =>
    obtain ⟨k, hk, rfl, hf⟩ := hrel
    by_cases hlt : k < l.length
    · have hk? : l[k]? = some (at' l k) := at_get hlt
      obtain ⟨b, off, rfl, c0, c1, c2⟩ := HC.out k _ hk?
      have HK : Hid (l[k]? = some (at' l k)) := hk?
      have d0 := cell_keep hf.below (Nat.le_refl _) c0
      have d1 := cell_keep hf.below (Nat.le_refl _) c1
      have d2 := cell_keep hf.below (Nat.le_refl _) c2
      clear c0 c1 c2 HC hk?
      generalize at' l k = t at *
      have hk0 : (0 : Int) ≤ (k : Int) := by omega
      have hk1 : (k : Int) < (l.length : Int) := by omega
      go_wp2_with fail
      refine (toPoint_any t _).mono ?_
      rintro e w1 ⟨rfl, hb1⟩
      have hf1 := hf.call hb1
      have e0 := hf1.room (k * 3) (by omega)
      have e1 := hf1.room (k * 3 + 1) (by omega)
      have e2 := hf1.room (k * 3 + 2) (by omega)
      simp only [Nat.zero_add, Option.isSome_iff_exists] at e0 e1 e2
      obtain ⟨⟨v0, e0⟩, f0⟩ := e0
      obtain ⟨⟨v1, e1⟩, f1⟩ := e1
      obtain ⟨⟨v2, e2⟩, f2⟩ := e2
      go_wp2
      exact ⟨⟨k + 1, by omega, by go_num, hf1.store hlt HK.out⟩, by simp [intOf]; omega⟩
    · go_wp2
      go_ret
      obtain rfl : k = l.length := by omega
      exact ⟨rfl, hf⟩
theorem toPoints_any (v : Value) (l : List Tri) (w : World) (hv : TrisAt w v l) (hn : l.length ≤ 1048576) :
    Calls Tryz.prog 88 #[v] w fun e w' => e = .returned (.slice (some ⟨w.heap.size, 0, none⟩) l.length l.length) ∧ TrisAt w' (.slice (some ⟨w.heap.size, 0, none⟩) l.length l.length) l ∧ Below w.heap.size w w' ∧ w.heap.size < w'.heap.size :=
  (toPoints_own v l w hv hn).mono fun _ _ ⟨he, hf⟩ => ⟨he, hf.tris (by unfold maxLen; omega), hf.below, hf.big⟩
end Go.Proofs.YthccipaobeapbabGreatDoor

/-
  impl: names of a list, kinds, points.
-/
namespace Go.Proofs.YthccipaobeapbabGreatDoor
open Go.RowKit

theorem asc_zero (l : List Tri) : ascB l 0 = true := by simp [ascB]
theorem asc_succ (l : List Tri) (m : Nat) : ascB l (m + 1) = !geB (at' l m).s (at' l (m + 1)).s := by simp [ascB]

/-- The cells of one element, in w. -/
def TriAt (w : World) (b o : Nat) (t : Tri) : Prop :=
  w.cell? ⟨b, o, none⟩ = some (.string t.s) ∧ w.cell? ⟨b, o + 1, none⟩ = some (.int .i64 t.x) ∧ w.cell? ⟨b, o + 2, none⟩ = some (.int .i64 t.y)
theorem TriAt.keep {w w' : World} {b o B : Nat} {t : Tri} (h : TriAt w b o t) (hb : Below B w w') (hB : w.heap.size ≤ B) : TriAt w' b o t :=
  ⟨cell_keep hb hB h.1, cell_keep hb hB h.2.1, cell_keep hb hB h.2.2⟩

set_option maxHeartbeats 1600000 in
theorem namesKind_any (v : Value) (l : List Tri) (most : Nat) (w : World) (hv : TrisAt w v l) (hs : ∀ t ∈ l, t.s.size ≤ maxLen) (hm : most ≤ 1000) :
    Calls Tryz.prog 154 #[v, .int .i64 most, .func (.func 155) #[] #[]] w fun e w' => e = .returned (.bool (namesB l most)) ∧ Below w.heap.size w w' := by
  obtain ⟨a, cap, rfl, hlc, hcm, hc⟩ := hv
  unfold maxLen at hcm
  have HC : Hid (∀ i t, l[i]? = some t → ∃ b off, a = some ⟨b, off, none⟩ ∧ TriAt w b (off + i * 3) t) := hc
  have HS : Hid (∀ t ∈ l, t.s.size ≤ maxLen) := hs
  clear hc hs
  by_cases hn : (most : Int) < (l.length : Int)
  · have e : namesB l most = false := by simp [namesB]; omega
    rw [e]; clear e
    go_enter Tryz.func154, Tryz.ntmps154
    go_wp2
    go_ret
    exact ⟨rfl, Below.refl _ _⟩
  · have e : namesB l most = allB l.length fun i => nameB (at' l i).s && ascB l i := by
      have : l.length ≤ most := by omega
      simp [namesB, this]
    rw [e]; clear e
    go_enter Tryz.func154, Tryz.ntmps154
    go_wp2
    go_loopw [7, 8, 15] (fun _ _ i wr => ∃ k : Nat, k ≤ l.length ∧ i = .int .i64 k ∧ Below w.heap.size w wr ∧ Hid (∀ j, j < k → (nameB (at' l j).s && ascB l j) = true)) (fun _ _ i _ => l.length - (intOf i).toNat)
    case atStart => exact ⟨0, Nat.zero_le _, rfl, Below.refl _ _, fun j hj => absurd hj (Nat.not_lt_zero _)⟩
    case round =>
      obtain ⟨k, hk, rfl, hb, HA⟩ := hrel
      by_cases hlt : k < l.length
      · obtain ⟨b, off, rfl, hc⟩ := HC.out k _ (at_get hlt)
        obtain ⟨d0, d1, d2⟩ := hc.keep hb (Nat.le_refl _)
        have hsk : (at' l k).s.size ≤ maxLen := HS.out _ (List.mem_of_getElem? (at_get hlt))
        have BAD : Hid (nameB (at' l k).s = false → allB l.length (fun i => nameB (at' l i).s && ascB l i) = false) := fun h => allB_false hlt (by simp [h])
        have BAD' : Hid (ascB l k = false → allB l.length (fun i => nameB (at' l i).s && ascB l i) = false) := fun h => allB_false hlt (by simp [h])
        have hk0 : (0 : Int) ≤ (k : Int) := by omega
        have hk1 : (k : Int) < (l.length : Int) := by omega
        have hbl := lt_of_cell d0
        go_wp2_with fail
        refine (kindName_any (at' l k) _).mono ?_
        rintro e w1 ⟨rfl, hb1⟩
        go_wp2_with fail
        refine (nameOk_any (at' l k).s _ hsk).mono ?_
        rintro e w2 ⟨rfl, hb2⟩
        have hb12 : Below (wr.alloc (.cells #[.string (at' l k).s, .int .i64 (at' l k).x, .int .i64 (at' l k).y] 49)).heap.size (wr.alloc (.cells #[.string (at' l k).s, .int .i64 (at' l k).x, .int .i64 (at' l k).y] 49)) w2 := below_step hb1 hb2
        have hbw : Below w.heap.size w w2 := below_step (hb.alloc hb.size _) hb12
        have tk : TriAt w2 b (off + k * 3) (at' l k) := hc.keep hbw (Nat.le_refl _)
        have tn : TriAt w2 wr.heap.size 0 (at' l k) := TriAt.keep (w := wr.alloc (.cells #[.string (at' l k).s, .int .i64 (at' l k).x, .int .i64 (at' l k).y] 49)) ⟨by simp, by simp, by simp⟩ hb12 (Nat.le_refl _)
        clear d0 d1 d2 hb1 hb2 hb12
        cases hnm : nameB (at' l k).s
        · have HN : Hid (nameB (at' l k).s = false) := hnm
          clear hnm
          go_wp2
          go_ret
          exact ⟨ret_bool (BAD.out HN.out).symm, hbw⟩
        · have HN : Hid (nameB (at' l k).s = true) := hnm
          clear hnm
          by_cases hkz : k = 0
          · subst hkz
            go_wp2
            go_quiet (fail)
            go_wp2
            exact ⟨⟨1, by omega, by go_num, below_drewN hbw _, fun j hj => by obtain rfl : j = 0 := by omega
                                                                              rw [HN.out, asc_zero]; rfl⟩, by simp [intOf]; omega⟩
          · obtain ⟨m, rfl⟩ : ∃ m, k = m + 1 := ⟨k - 1, by omega⟩
            obtain ⟨b', off', hbo, hcm'⟩ := HC.out m _ (at_get (by omega))
            cases hbo
            have tm : TriAt w2 b (off + m * 3) (at' l m) := hcm'.keep hbw (Nat.le_refl _)
            have HE : Hid (ascB l (m + 1) = !geB (at' l m).s (at' l (m + 1)).s) := asc_succ l m
            obtain ⟨m0, m1, m2⟩ := tm
            obtain ⟨n0, n1, n2⟩ := tn
            have hi0 : (0 : Int) ≤ (m : Int) := by omega
            have hi1 : (m : Int) < (l.length : Int) := by omega
            have hi2 : (0 : Int) < (m : Int) + 1 := by omega
            have hw1 : IntKind.i64.wrap (m : Int) = (m : Int) := by rw [IntKind.wrap_i64]; omega
            have hw2 : IntKind.i64.wrap ((m : Int) + 1 - 1) = (m : Int) := by rw [IntKind.wrap_i64]; omega
            clear hc hcm' tk
            go_wp2
            go_region_held3 (fun w' => w'.cell? ⟨b, off + m * 3, none⟩ = some (.string (at' l m).s) ∧ w'.cell? ⟨b, off + m * 3 + 1, none⟩ = some (.int .i64 (at' l m).x) ∧ w'.cell? ⟨b, off + m * 3 + 2, none⟩ = some (.int .i64 (at' l m).y) ∧
                w'.cell? ⟨wr.heap.size, 0, none⟩ = some (.string (at' l (m + 1)).s) ∧ w'.cell? ⟨wr.heap.size, 1, none⟩ = some (.int .i64 (at' l (m + 1)).x) ∧ w'.cell? ⟨wr.heap.size, 2, none⟩ = some (.int .i64 (at' l (m + 1)).y) ∧ Below w2.heap.size w2 w')
              (first | (refine ⟨by simp [*, go_sem], by simp [*, go_sem], by simp [*, go_sem], by simp [*, go_sem], by simp [*, go_sem], by simp [*, go_sem], ?_⟩; exact (Below.refl _ _).drew) | (obtain ⟨s0, s1, s2, s3, s4, s5, s6⟩ := ‹_ ∧ _ ∧ _ ∧ _ ∧ _ ∧ _ ∧ _›; exact ⟨cell_keep hb3 (Nat.le_refl _) s0, cell_keep hb3 (Nat.le_refl _) s1, cell_keep hb3 (Nat.le_refl _) s2, cell_keep hb3 (Nat.le_refl _) s3, cell_keep hb3 (Nat.le_refl _) s4, cell_keep hb3 (Nat.le_refl _) s5, below_step s6 hb3⟩))
              (first | (go_at_call 155; refine (kindName_any _ _).mono ?_; rintro e w3 ⟨rfl, hb3⟩))
            go_wp2
            · rename_i h
              obtain ⟨_, _, _, _, _, _, hS⟩ := ‹_ ∧ _ ∧ _ ∧ _ ∧ _ ∧ _ ∧ Below w2.heap.size w2 w3›
              go_ret
              exact ⟨ret_bool (BAD'.out (by rw [HE.out]; unfold geB; rw [h]; rfl)).symm, below_step hbw hS⟩
            · rename_i h
              obtain ⟨_, _, _, _, _, _, hS⟩ := ‹_ ∧ _ ∧ _ ∧ _ ∧ _ ∧ _ ∧ Below w2.heap.size w2 w3›
              exact ⟨⟨m + 1 + 1, by omega, by go_num, below_step hbw hS, fun j hj => if e : j = m + 1 then by rw [e, HN.out, HE.out]; unfold geB; rw [h]; rfl else HA.out j (by omega)⟩, by simp [intOf]; omega⟩
      · go_wp2
        go_ret
        exact ⟨ret_bool (allB_true fun j hj => HA.out j (by omega)).symm, hb⟩
set_option maxHeartbeats 1600000 in
theorem namesPoint_any (v : Value) (l : List Tri) (most : Nat) (w : World) (hv : TrisAt w v l) (hs : ∀ t ∈ l, t.s.size ≤ maxLen) (hm : most ≤ 1000) :
    Calls Tryz.prog 157 #[v, .int .i64 most, .func (.func 158) #[] #[]] w fun e w' => e = .returned (.bool (namesB l most)) ∧ Below w.heap.size w w' := by
  obtain ⟨a, cap, rfl, hlc, hcm, hc⟩ := hv
  unfold maxLen at hcm
  have HC : Hid (∀ i t, l[i]? = some t → ∃ b off, a = some ⟨b, off, none⟩ ∧ TriAt w b (off + i * 3) t) := hc
  have HS : Hid (∀ t ∈ l, t.s.size ≤ maxLen) := hs
  clear hc hs
  by_cases hn : (most : Int) < (l.length : Int)
  · have e : namesB l most = false := by simp [namesB]; omega
    rw [e]; clear e
    go_enter Tryz.func157, Tryz.ntmps157
    go_wp2
    go_ret
    exact ⟨rfl, Below.refl _ _⟩
  · have e : namesB l most = allB l.length fun i => nameB (at' l i).s && ascB l i := by
      have : l.length ≤ most := by omega
      simp [namesB, this]
    rw [e]; clear e
    go_enter Tryz.func157, Tryz.ntmps157
    go_wp2
    go_loopw [7, 8, 15] (fun _ _ i wr => ∃ k : Nat, k ≤ l.length ∧ i = .int .i64 k ∧ Below w.heap.size w wr ∧ Hid (∀ j, j < k → (nameB (at' l j).s && ascB l j) = true)) (fun _ _ i _ => l.length - (intOf i).toNat)
    case atStart => exact ⟨0, Nat.zero_le _, rfl, Below.refl _ _, fun j hj => absurd hj (Nat.not_lt_zero _)⟩
    case round =>
      obtain ⟨k, hk, rfl, hb, HA⟩ := hrel
      by_cases hlt : k < l.length
      · obtain ⟨b, off, rfl, hc⟩ := HC.out k _ (at_get hlt)
        obtain ⟨d0, d1, d2⟩ := hc.keep hb (Nat.le_refl _)
        have hsk : (at' l k).s.size ≤ maxLen := HS.out _ (List.mem_of_getElem? (at_get hlt))
        have BAD : Hid (nameB (at' l k).s = false → allB l.length (fun i => nameB (at' l i).s && ascB l i) = false) := fun h => allB_false hlt (by simp [h])
        have BAD' : Hid (ascB l k = false → allB l.length (fun i => nameB (at' l i).s && ascB l i) = false) := fun h => allB_false hlt (by simp [h])
        have hk0 : (0 : Int) ≤ (k : Int) := by omega
        have hk1 : (k : Int) < (l.length : Int) := by omega
        have hbl := lt_of_cell d0
        go_wp2_with fail
        refine (pointName_any (at' l k) _).mono ?_
        rintro e w1 ⟨rfl, hb1⟩
        go_wp2_with fail
        refine (nameOk_any (at' l k).s _ hsk).mono ?_
        rintro e w2 ⟨rfl, hb2⟩
        have hb12 : Below (wr.alloc (.cells #[.string (at' l k).s, .int .i64 (at' l k).x, .int .i64 (at' l k).y] 80)).heap.size (wr.alloc (.cells #[.string (at' l k).s, .int .i64 (at' l k).x, .int .i64 (at' l k).y] 80)) w2 := below_step hb1 hb2
        have hbw : Below w.heap.size w w2 := below_step (hb.alloc hb.size _) hb12
        have tk : TriAt w2 b (off + k * 3) (at' l k) := hc.keep hbw (Nat.le_refl _)
        have tn : TriAt w2 wr.heap.size 0 (at' l k) := TriAt.keep (w := wr.alloc (.cells #[.string (at' l k).s, .int .i64 (at' l k).x, .int .i64 (at' l k).y] 80)) ⟨by simp, by simp, by simp⟩ hb12 (Nat.le_refl _)
        clear d0 d1 d2 hb1 hb2 hb12
        cases hnm : nameB (at' l k).s
        · have HN : Hid (nameB (at' l k).s = false) := hnm
          clear hnm
          go_wp2
          go_ret
          exact ⟨ret_bool (BAD.out HN.out).symm, hbw⟩
        · have HN : Hid (nameB (at' l k).s = true) := hnm
          clear hnm
          by_cases hkz : k = 0
          · subst hkz
            go_wp2
            go_quiet (fail)
            go_wp2
            exact ⟨⟨1, by omega, by go_num, below_drewN hbw _, fun j hj => by obtain rfl : j = 0 := by omega
                                                                              rw [HN.out, asc_zero]; rfl⟩, by simp [intOf]; omega⟩
          · obtain ⟨m, rfl⟩ : ∃ m, k = m + 1 := ⟨k - 1, by omega⟩
            obtain ⟨b', off', hbo, hcm'⟩ := HC.out m _ (at_get (by omega))
            cases hbo
            have tm : TriAt w2 b (off + m * 3) (at' l m) := hcm'.keep hbw (Nat.le_refl _)
            have HE : Hid (ascB l (m + 1) = !geB (at' l m).s (at' l (m + 1)).s) := asc_succ l m
            obtain ⟨m0, m1, m2⟩ := tm
            obtain ⟨n0, n1, n2⟩ := tn
            have hi0 : (0 : Int) ≤ (m : Int) := by omega
            have hi1 : (m : Int) < (l.length : Int) := by omega
            have hi2 : (0 : Int) < (m : Int) + 1 := by omega
            have hw1 : IntKind.i64.wrap (m : Int) = (m : Int) := by rw [IntKind.wrap_i64]; omega
            have hw2 : IntKind.i64.wrap ((m : Int) + 1 - 1) = (m : Int) := by rw [IntKind.wrap_i64]; omega
            clear hc hcm' tk
            go_wp2
            go_region_held3 (fun w' => w'.cell? ⟨b, off + m * 3, none⟩ = some (.string (at' l m).s) ∧ w'.cell? ⟨b, off + m * 3 + 1, none⟩ = some (.int .i64 (at' l m).x) ∧ w'.cell? ⟨b, off + m * 3 + 2, none⟩ = some (.int .i64 (at' l m).y) ∧
                w'.cell? ⟨wr.heap.size, 0, none⟩ = some (.string (at' l (m + 1)).s) ∧ w'.cell? ⟨wr.heap.size, 1, none⟩ = some (.int .i64 (at' l (m + 1)).x) ∧ w'.cell? ⟨wr.heap.size, 2, none⟩ = some (.int .i64 (at' l (m + 1)).y) ∧ Below w2.heap.size w2 w')
              (first | (refine ⟨by simp [*, go_sem], by simp [*, go_sem], by simp [*, go_sem], by simp [*, go_sem], by simp [*, go_sem], by simp [*, go_sem], ?_⟩; exact (Below.refl _ _).drew) | (obtain ⟨s0, s1, s2, s3, s4, s5, s6⟩ := ‹_ ∧ _ ∧ _ ∧ _ ∧ _ ∧ _ ∧ _›; exact ⟨cell_keep hb3 (Nat.le_refl _) s0, cell_keep hb3 (Nat.le_refl _) s1, cell_keep hb3 (Nat.le_refl _) s2, cell_keep hb3 (Nat.le_refl _) s3, cell_keep hb3 (Nat.le_refl _) s4, cell_keep hb3 (Nat.le_refl _) s5, below_step s6 hb3⟩))
              (first | (go_at_call 158; refine (pointName_any _ _).mono ?_; rintro e w3 ⟨rfl, hb3⟩))
            go_wp2
            · rename_i h
              obtain ⟨_, _, _, _, _, _, hS⟩ := ‹_ ∧ _ ∧ _ ∧ _ ∧ _ ∧ _ ∧ Below w2.heap.size w2 w3›
              go_ret
              exact ⟨ret_bool (BAD'.out (by rw [HE.out]; unfold geB; rw [h]; rfl)).symm, below_step hbw hS⟩
            · rename_i h
              obtain ⟨_, _, _, _, _, _, hS⟩ := ‹_ ∧ _ ∧ _ ∧ _ ∧ _ ∧ _ ∧ Below w2.heap.size w2 w3›
              exact ⟨⟨m + 1 + 1, by omega, by go_num, below_step hbw hS, fun j hj => if e : j = m + 1 then by rw [e, HN.out, HE.out]; unfold geB; rw [h]; rfl else HA.out j (by omega)⟩, by simp [intOf]; omega⟩
      · go_wp2
        go_ret
        exact ⟨ret_bool (allB_true fun j hj => HA.out j (by omega)).symm, hb⟩
end Go.Proofs.YthccipaobeapbabGreatDoor

/-
  impl: kinds and points of a base.
-/
namespace Go.Proofs.YthccipaobeapbabGreatDoor
open Go.RowKit

set_option maxHeartbeats 1600000 in
theorem kindsOk_any (v : Value) (l : List Tri) (w : World) (hv : TrisAt w v l) (hs : ∀ t ∈ l, t.s.size ≤ maxLen) :
    Calls Tryz.prog 130 #[v] w fun e w' => e = .returned (.bool (kindsB l)) ∧ Below w.heap.size w w' := by
  have hnm := fun wx hvx => namesKind_any v l 6 wx hvx hs (by omega)
  have HNM : Hid (∀ (wx : World), TrisAt wx v l → Calls Tryz.prog 154 #[v, .int .i64 (6 : Nat), .func (.func 155) #[] #[]] wx fun e w' => e = .returned (.bool (namesB l 6)) ∧ Below wx.heap.size wx w') := hnm
  clear hnm
  have HV : Hid (TrisAt w v l) := hv
  obtain ⟨a, cap, rfl, hlc, hcm, hc⟩ := hv
  unfold maxLen at hcm
  have HC : Hid (∀ i t, l[i]? = some t → ∃ b off, a = some ⟨b, off, none⟩ ∧ TriAt w b (off + i * 3) t) := hc
  clear hc
  cases hn : namesB l 6
  · have e : kindsB l = false := by simp [kindsB, hn]
    have HN : Hid (namesB l 6 = false) := hn
    rw [e]; clear e hn
    go_enter Tryz.func130, Tryz.ntmps130
    go_wp2_with fail
    refine (HNM.out _ HV.out).mono ?_
    rw [HN.out]
    rintro e w1 ⟨rfl, hb1⟩
    go_wp2
    go_ret
    exact ⟨rfl, hb1⟩
  · have e : kindsB l = allB l.length fun i => paceB (at' l i) := by simp [kindsB, hn]
    have HN : Hid (namesB l 6 = true) := hn
    rw [e]; clear e hn
    go_enter Tryz.func130, Tryz.ntmps130
    go_wp2_with fail
    refine (HNM.out _ HV.out).mono ?_
    rw [HN.out]
    rintro e w1 ⟨rfl, hb1⟩
    go_wp2
    go_loopw [4, 10] (fun _ i wr => ∃ k : Nat, k ≤ l.length ∧ i = .int .i64 k ∧ Below w.heap.size w wr ∧ Hid (∀ j, j < k → paceB (at' l j) = true)) (fun _ i _ => l.length - (intOf i).toNat)
    case atStart => exact ⟨0, Nat.zero_le _, rfl, hb1, fun j hj => absurd hj (Nat.not_lt_zero _)⟩
    case round =>
      obtain ⟨k, hk, rfl, hb, HA⟩ := hrel
      by_cases hlt : k < l.length
      · obtain ⟨b, off, rfl, hc⟩ := HC.out k _ (at_get hlt)
        obtain ⟨d0, d1, d2⟩ := hc.keep hb (Nat.le_refl _)
        have BAD : Hid (paceB (at' l k) = false → allB l.length (fun i => paceB (at' l i)) = false) := fun h => allB_false hlt h
        have hk0 : (0 : Int) ≤ (k : Int) := by omega
        have hk1 : (k : Int) < (l.length : Int) := by omega
        cases hp : paceB (at' l k)
        · have HP : Hid (paceB (at' l k) = false) := hp
          clear hp
          go_wp2_with fail
          refine (paceOk_any (at' l k) _).mono ?_
          rw [HP.out]
          rintro e w2 ⟨rfl, hb2⟩
          go_wp2
          go_ret
          exact ⟨ret_bool (BAD.out HP.out).symm, below_step (hb.alloc hb.size _) hb2⟩
        · have HP : Hid (paceB (at' l k) = true) := hp
          clear hp
          go_wp2_with fail
          refine (paceOk_any (at' l k) _).mono ?_
          rw [HP.out]
          rintro e w2 ⟨rfl, hb2⟩
          go_wp2
          exact ⟨⟨k + 1, by omega, by go_num, below_step (hb.alloc hb.size _) hb2, fun j hj => if e : j = k then by rw [e]; exact HP.out else HA.out j (by omega)⟩, by simp [intOf]; omega⟩
      · go_wp2
        go_ret
        exact ⟨ret_bool (allB_true fun j hj => HA.out j (by omega)).symm, hb⟩

set_option maxHeartbeats 1600000 in
theorem cellTaken_any (v : Value) (l : List Tri) (t : Tri) (w : World) (hv : TrisAt w v l) :
    Calls Tryz.prog 160 #[v, .agg #[.string t.s, .int .i64 t.x, .int .i64 t.y]] w fun e w' => e = .returned (.bool (takenB l l.length t)) ∧ Below w.heap.size w w' := by
  obtain ⟨a, cap, rfl, hlc, hcm, hc⟩ := hv
  unfold maxLen at hcm
  have HC : Hid (∀ i t, l[i]? = some t → ∃ b off, a = some ⟨b, off, none⟩ ∧ TriAt w b (off + i * 3) t) := hc
  clear hc
  go_enter Tryz.func160, Tryz.ntmps160
  go_wp2
  go_loopw [6, 9] (fun _ i wr => ∃ k : Nat, k ≤ l.length ∧ i = .int .i64 k ∧ Below (w.heap.size + 1) (w.alloc (.cells #[.string t.s, .int .i64 t.x, .int .i64 t.y] 80)) wr ∧ Hid (∀ j, j < k → (!sameB (at' l j) t) = true)) (fun _ i _ => l.length - (intOf i).toNat)
  case atStart => exact ⟨0, Nat.zero_le _, rfl, Below.refl _ _, fun j hj => absurd hj (Nat.not_lt_zero _)⟩
  case round =>
    obtain ⟨k, hk, rfl, hb, HA⟩ := hrel
    have hbw : Below w.heap.size w wr := ((Below.refl _ _).alloc (Nat.le_refl _) _).trans (hb.mono (Nat.le_succ _))
    have hsz : w.heap.size < wr.heap.size := by have := hb.size; simp at this; omega
    have p1 : wr.cell? ⟨w.heap.size, 1, none⟩ = some (.int .i64 t.x) := by rw [hb.cell (p := ⟨w.heap.size, 1, none⟩) (Nat.lt_succ_self _)]; simp
    have p2 : wr.cell? ⟨w.heap.size, 2, none⟩ = some (.int .i64 t.y) := by rw [hb.cell (p := ⟨w.heap.size, 2, none⟩) (Nat.lt_succ_self _)]; simp
    by_cases hlt : k < l.length
    · obtain ⟨b, off, rfl, hc⟩ := HC.out k _ (at_get hlt)
      obtain ⟨d0, d1, d2⟩ := hc.keep hbw (Nat.le_refl _)
      have BAD : Hid ((!sameB (at' l k) t) = false → takenB l l.length t = true) := fun h => by unfold takenB; rw [allB_false hlt h]; rfl
      have hk0 : (0 : Int) ≤ (k : Int) := by omega
      have hk1 : (k : Int) < (l.length : Int) := by omega
      have hfin : Hid (Below (w.heap.size + 1) (w.alloc (.cells #[.string t.s, .int .i64 t.x, .int .i64 t.y] 80)) (wr.alloc (.cells #[.string (at' l k).s, .int .i64 (at' l k).x, .int .i64 (at' l k).y] 80))) := hb.alloc (by omega) _
      have hfin' : Hid (Below w.heap.size w (wr.alloc (.cells #[.string (at' l k).s, .int .i64 (at' l k).x, .int .i64 (at' l k).y] 80))) := hbw.alloc (by omega) _
      have SM : Hid (sameB (at' l k) t = (decide ((at' l k).x = t.x) && decide ((at' l k).y = t.y))) := rfl
      by_cases hx : (at' l k).x = t.x
      · have hx' : ((at' l k).x == t.x) = true := by simp [hx]
        have HX : Hid ((at' l k).x = t.x) := hx
        clear hx
        by_cases hy : (at' l k).y = t.y
        · have hy' : ((at' l k).y == t.y) = true := by simp [hy]
          have HY : Hid ((at' l k).y = t.y) := hy
          clear hy
          go_wp2
          go_ret
          exact ⟨ret_bool (BAD.out (by rw [SM.out, HX.out, HY.out]; simp)).symm, hfin'.out⟩
        · have hy' : ((at' l k).y == t.y) = false := by simp [hy]
          have HY : Hid (¬ (at' l k).y = t.y) := hy
          clear hy
          go_wp2
          exact ⟨⟨k + 1, by omega, by go_num, hfin.out, fun j hj => if e : j = k then by rw [e, SM.out]; simp [HY.out] else HA.out j (by omega)⟩, by simp [intOf]; omega⟩
      · have hx' : ((at' l k).x == t.x) = false := by simp [hx]
        have HX : Hid (¬ (at' l k).x = t.x) := hx
        clear hx
        go_wp2
        exact ⟨⟨k + 1, by omega, by go_num, hfin.out, fun j hj => if e : j = k then by rw [e, SM.out]; simp [HX.out] else HA.out j (by omega)⟩, by simp [intOf]; omega⟩
    · go_wp2
      go_ret
      exact ⟨ret_bool (by unfold takenB; rw [allB_true fun j hj => HA.out j (by omega)]; rfl), hbw⟩

theorem taken_take (l : List Tri) (i : Nat) (h : i ≤ l.length) (t : Tri) : takenB (l.take i) (l.take i).length t = takenB l i t := by
  unfold takenB
  rw [List.length_take, Nat.min_eq_left h]
  congr 1
  refine allB_congr fun j hj => ?_
  simp [at', List.getD, hj]

theorem TrisAt.take {w : World} {a : Option Addr} {l : List Tri} {cap : Nat} (h : TrisAt w (.slice a l.length cap) l) (i : Nat) (hi : i ≤ l.length) : TrisAt w (.slice a i cap) (l.take i) := by
  obtain ⟨a', cap', he, h1, h2, h3⟩ := h
  cases he
  have hl : (l.take i).length = i := by rw [List.length_take, Nat.min_eq_left hi]
  refine ⟨a, cap, by rw [hl], by omega, h2, fun j t ht => h3 j t ?_⟩
  have hj : j < (l.take i).length := (List.getElem?_eq_some_iff.1 ht).1
  rw [List.getElem?_take] at ht
  rw [hl] at hj
  simpa [hj] using ht
end Go.Proofs.YthccipaobeapbabGreatDoor

/-
  impl: the points of a base; a base.
-/
namespace Go.Proofs.YthccipaobeapbabGreatDoor
open Go.RowKit

set_option maxHeartbeats 1600000 in
theorem pointsOk_any (v : Value) (l : List Tri) (w : World) (hv : TrisAt w v l) (hs : ∀ t ∈ l, t.s.size ≤ maxLen) :
    Calls Tryz.prog 131 #[v] w fun e w' => e = .returned (.bool (pointsB l)) ∧ Below w.heap.size w w' := by
  have hnm := fun wx hvx => namesPoint_any v l 16 wx hvx hs (by omega)
  have HNM : Hid (∀ (wx : World), TrisAt wx v l → Calls Tryz.prog 157 #[v, .int .i64 (16 : Nat), .func (.func 158) #[] #[]] wx fun e w' => e = .returned (.bool (namesB l 16)) ∧ Below wx.heap.size wx w') := hnm
  clear hnm
  have HV : Hid (TrisAt w v l) := hv
  obtain ⟨a, cap, rfl, hlc, hcm, hc⟩ := hv
  unfold maxLen at hcm
  have HC : Hid (∀ i t, l[i]? = some t → ∃ b off, a = some ⟨b, off, none⟩ ∧ TriAt w b (off + i * 3) t) := hc
  clear hc
  cases hn : namesB l 16
  · have e : pointsB l = false := by simp [pointsB, hn]
    have HN : Hid (namesB l 16 = false) := hn
    rw [e]; clear e hn
    go_enter Tryz.func131, Tryz.ntmps131
    go_wp2_with fail
    refine (HNM.out _ HV.out).mono ?_
    rw [HN.out]
    rintro e w1 ⟨rfl, hb1⟩
    go_wp2
    go_ret
    exact ⟨rfl, hb1⟩
  · have e : pointsB l = allB l.length fun i => insideB (at' l i) && !takenB l i (at' l i) := by simp [pointsB, hn]
    have HN : Hid (namesB l 16 = true) := hn
    rw [e]; clear e hn
    go_enter Tryz.func131, Tryz.ntmps131
    go_wp2_with fail
    refine (HNM.out _ HV.out).mono ?_
    rw [HN.out]
    rintro e w1 ⟨rfl, hb1⟩
    go_wp2
    go_loopw [3, 4, 10] (fun _ _ i wr => ∃ k : Nat, k ≤ l.length ∧ i = .int .i64 k ∧ Below w.heap.size w wr ∧ Hid (∀ j, j < k → (insideB (at' l j) && !takenB l j (at' l j)) = true)) (fun _ _ i _ => l.length - (intOf i).toNat)
    case atStart => exact ⟨0, Nat.zero_le _, rfl, hb1, fun j hj => absurd hj (Nat.not_lt_zero _)⟩
    case round =>
      obtain ⟨k, hk, rfl, hb, HA⟩ := hrel
      by_cases hlt : k < l.length
      · obtain ⟨b, off, rfl, hc⟩ := HC.out k _ (at_get hlt)
        obtain ⟨d0, d1, d2⟩ := hc.keep hb (Nat.le_refl _)
        have BAD : Hid ((insideB (at' l k) && !takenB l k (at' l k)) = false → allB l.length (fun i => insideB (at' l i) && !takenB l i (at' l i)) = false) := fun h => allB_false hlt h
        have hk0 : (0 : Int) ≤ (k : Int) := by omega
        have hk1 : (k : Int) < (l.length : Int) := by omega
        have hk2 : (k : Int) ≤ (cap : Int) := by omega
        have HT : Hid (takenB (l.take k) (l.take k).length (at' l k) = takenB l k (at' l k)) := taken_take l k hk _
        have HTK : Hid (∀ wx : World, Below w.heap.size w wx → TrisAt wx (.slice (some ⟨b, off, none⟩) k cap) (l.take k)) := fun wx hx => (HV.out.keep hx).take k hk
        cases hp : insideB (at' l k)
        · have HP : Hid (insideB (at' l k) = false) := hp
          clear hp
          go_wp2
          first | go_region_with (go_at_call 159; refine (inside_any (at' l k) _).mono ?_; rw [HP.out]; rintro e w3 ⟨rfl, hb3⟩) | fail
          all_goals go_wp2
          all_goals go_ret
          all_goals exact ⟨ret_bool (BAD.out (by rw [HP.out]; rfl)).symm, below_step (hb.alloc hb.size _).drew hb3⟩
        · have HP : Hid (insideB (at' l k) = true) := hp
          clear hp
          cases ht : takenB l k (at' l k)
          · have HT2 : Hid (takenB l k (at' l k) = false) := ht
            clear ht
            go_wp2
            go_region_held3 (fun w' => w'.cell? ⟨wr.heap.size, 0, none⟩ = some (.string (at' l k).s) ∧ w'.cell? ⟨wr.heap.size, 1, none⟩ = some (.int .i64 (at' l k).x) ∧ w'.cell? ⟨wr.heap.size, 2, none⟩ = some (.int .i64 (at' l k).y) ∧ Below w.heap.size w w')
              (first | (refine ⟨by simp [*, go_sem], by simp [*, go_sem], by simp [*, go_sem], ?_⟩; exact (hb.alloc hb.size _).drew) | (obtain ⟨s0, s1, s2, s6⟩ := ‹_ ∧ _ ∧ _ ∧ Below w.heap.size w _›; exact ⟨cell_keep hb3 (Nat.le_refl _) s0, cell_keep hb3 (Nat.le_refl _) s1, cell_keep hb3 (Nat.le_refl _) s2, below_step s6 hb3⟩))
              (first | (go_at_call 159; refine (inside_any (at' l k) _).mono ?_; rw [HP.out]; rintro e w3 ⟨rfl, hb3⟩) | (go_at_call 160; refine (cellTaken_any _ (l.take k) (at' l k) _ (HTK.out _ (by exact (‹_ ∧ _ ∧ _ ∧ Below w.heap.size w _›).2.2.2))).mono ?_; rw [HT.out, HT2.out]; rintro e w3 ⟨rfl, hb3⟩))
            go_wp2
            obtain ⟨_, _, _, hS⟩ := ‹_ ∧ _ ∧ _ ∧ Below w.heap.size w w3›
            exact ⟨⟨k + 1, by omega, by go_num, hS, fun j hj => if e : j = k then by rw [e, HP.out, HT2.out]; rfl else HA.out j (by omega)⟩, by simp [intOf]; omega⟩
          · have HT2 : Hid (takenB l k (at' l k) = true) := ht
            clear ht
            go_wp2
            go_region_held3 (fun w' => w'.cell? ⟨wr.heap.size, 0, none⟩ = some (.string (at' l k).s) ∧ w'.cell? ⟨wr.heap.size, 1, none⟩ = some (.int .i64 (at' l k).x) ∧ w'.cell? ⟨wr.heap.size, 2, none⟩ = some (.int .i64 (at' l k).y) ∧ Below w.heap.size w w')
              (first | (refine ⟨by simp [*, go_sem], by simp [*, go_sem], by simp [*, go_sem], ?_⟩; exact (hb.alloc hb.size _).drew) | (obtain ⟨s0, s1, s2, s6⟩ := ‹_ ∧ _ ∧ _ ∧ Below w.heap.size w _›; exact ⟨cell_keep hb3 (Nat.le_refl _) s0, cell_keep hb3 (Nat.le_refl _) s1, cell_keep hb3 (Nat.le_refl _) s2, below_step s6 hb3⟩))
              (first | (go_at_call 159; refine (inside_any (at' l k) _).mono ?_; rw [HP.out]; rintro e w3 ⟨rfl, hb3⟩) | (go_at_call 160; refine (cellTaken_any _ (l.take k) (at' l k) _ (HTK.out _ (by exact (‹_ ∧ _ ∧ _ ∧ Below w.heap.size w _›).2.2.2))).mono ?_; rw [HT.out, HT2.out]; rintro e w3 ⟨rfl, hb3⟩))
            go_wp2
            obtain ⟨_, _, _, hS⟩ := ‹_ ∧ _ ∧ _ ∧ Below w.heap.size w w3›
            go_ret
            exact ⟨ret_bool (BAD.out (by rw [HP.out, HT2.out]; rfl)).symm, hS⟩
      · go_wp2
        go_ret
        exact ⟨ret_bool (allB_true fun j hj => HA.out j (by omega)).symm, hb⟩
end Go.Proofs.YthccipaobeapbabGreatDoor
