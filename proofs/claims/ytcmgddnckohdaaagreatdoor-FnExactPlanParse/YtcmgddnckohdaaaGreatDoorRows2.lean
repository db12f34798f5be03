import Derived.Test.YtcmgddnckohdaaaGreatDoorTri
import Derived.Deep.RegionHeld3

namespace Go.Proofs.YtcmgddnckohdaaaGreatDoor
open Go.RowKit
set_option maxHeartbeats 800000 in
theorem eqKinds_any (v v' : Value) (l : List Tri) (w : World) (hv : TrisAt w v l) (hv' : TrisAt w v' l) :
  Calls Tryz.prog 99 #[v, v'] w fun e w' => e = .returned (.bool true) ∧ Below w.heap.size w w' := by
 obtain ⟨a, cap, rfl, hlc, hcm, hc⟩ := hv
 obtain ⟨a', cap', rfl, hlc', hcm', hc'⟩ := hv'
 unfold maxLen at hcm hcm'
 have HC : Hid (∀ i t, l[i]? = some t → ∃ b off, a = some ⟨b, off, none⟩ ∧
   w.cell? ⟨b, off + i * 3, none⟩ = some (.string t.s) ∧ w.cell? ⟨b, off + i * 3 + 1, none⟩ = some (.int .i64 t.x) ∧ w.cell? ⟨b, off + i * 3 + 2, none⟩ = some (.int .i64 t.y)) := hc
 have HC' : Hid (∀ i t, l[i]? = some t → ∃ b off, a' = some ⟨b, off, none⟩ ∧
   w.cell? ⟨b, off + i * 3, none⟩ = some (.string t.s) ∧ w.cell? ⟨b, off + i * 3 + 1, none⟩ = some (.int .i64 t.x) ∧ w.cell? ⟨b, off + i * 3 + 2, none⟩ = some (.int .i64 t.y)) := hc'
 clear hc hc'
 go_enter Tryz.func99, Tryz.ntmps99
 go_wp2
 go_loopw [5] (fun i w' => ∃ k : Nat, k ≤ l.length ∧ i = .int .i64 k ∧ Below w.heap.size w w') (fun i _ => l.length - (intOf i).toNat)
 case atStart => exact ⟨0, Nat.zero_le _, rfl, Below.refl _ _⟩
 case round =>
  obtain ⟨k, hk, rfl, hb⟩ := hrel
  by_cases hlt : k < l.length
  ·obtain ⟨b, off, rfl, c0, c1, c2⟩ := HC.out k l[k] (by simp [hlt])
   obtain ⟨b', off', rfl, c0', c1', c2'⟩ := HC'.out k l[k] (by simp [hlt])
   have d0 := cell_keep hb (Nat.le_refl _) c0
   have d1 := cell_keep hb (Nat.le_refl _) c1
   have d2 := cell_keep hb (Nat.le_refl _) c2
   have d0' := cell_keep hb (Nat.le_refl _) c0'
   have d1' := cell_keep hb (Nat.le_refl _) c1'
   have d2' := cell_keep hb (Nat.le_refl _) c2'
   clear c0 c1 c2 c0' c1' c2' HC HC'
   generalize l[k] = t at *
   have hk0 : (0 : Int) ≤ (k : Int) := by omega
   have hk1 : (k : Int) < (l.length : Int) := by omega
   go_wp2
   go_region_held3 (fun w' => w'.cell? ⟨b, off + k * 3, none⟩ = some (.string t.s) ∧ w'.cell? ⟨b, off + k * 3 + 1, none⟩ = some (.int .i64 t.x) ∧ w'.cell? ⟨b, off + k * 3 + 2, none⟩ = some (.int .i64 t.y) ∧
     w'.cell? ⟨b', off' + k * 3, none⟩ = some (.string t.s) ∧ w'.cell? ⟨b', off' + k * 3 + 1, none⟩ = some (.int .i64 t.x) ∧ w'.cell? ⟨b', off' + k * 3 + 2, none⟩ = some (.int .i64 t.y))
    (first | (simp [*, go_sem]; done) | (refine ⟨cell_keep hb1 (by simp) ?_, cell_keep hb1 (by simp) ?_, cell_keep hb1 (by simp) ?_, cell_keep hb1 (by simp) ?_, cell_keep hb1 (by simp) ?_, cell_keep hb1 (by simp) ?_⟩ <;> simp [*, go_sem]))
    (first | (go_at_call 148; refine (eqKind_any t _).mono ?_; rintro e w1 ⟨rfl, hb1⟩))
   go_wp2
   exact ⟨⟨k + 1, by omega, by go_num, below_step hb.drew hb1⟩, by simp [intOf]; omega⟩
  ·go_wp2
   go_ret
   exact ⟨rfl, hb⟩
set_option maxHeartbeats 800000 in
theorem eqPoints_any (v v' : Value) (l : List Tri) (w : World) (hv : TrisAt w v l) (hv' : TrisAt w v' l) :
  Calls Tryz.prog 100 #[v, v'] w fun e w' => e = .returned (.bool true) ∧ Below w.heap.size w w' := by
 obtain ⟨a, cap, rfl, hlc, hcm, hc⟩ := hv
 obtain ⟨a', cap', rfl, hlc', hcm', hc'⟩ := hv'
 unfold maxLen at hcm hcm'
 have HC : Hid (∀ i t, l[i]? = some t → ∃ b off, a = some ⟨b, off, none⟩ ∧
   w.cell? ⟨b, off + i * 3, none⟩ = some (.string t.s) ∧ w.cell? ⟨b, off + i * 3 + 1, none⟩ = some (.int .i64 t.x) ∧ w.cell? ⟨b, off + i * 3 + 2, none⟩ = some (.int .i64 t.y)) := hc
 have HC' : Hid (∀ i t, l[i]? = some t → ∃ b off, a' = some ⟨b, off, none⟩ ∧
   w.cell? ⟨b, off + i * 3, none⟩ = some (.string t.s) ∧ w.cell? ⟨b, off + i * 3 + 1, none⟩ = some (.int .i64 t.x) ∧ w.cell? ⟨b, off + i * 3 + 2, none⟩ = some (.int .i64 t.y)) := hc'
 clear hc hc'
 go_enter Tryz.func100, Tryz.ntmps100
 go_wp2
 go_loopw [5] (fun i w' => ∃ k : Nat, k ≤ l.length ∧ i = .int .i64 k ∧ Below w.heap.size w w') (fun i _ => l.length - (intOf i).toNat)
 case atStart => exact ⟨0, Nat.zero_le _, rfl, Below.refl _ _⟩
 case round =>
  obtain ⟨k, hk, rfl, hb⟩ := hrel
  by_cases hlt : k < l.length
  ·obtain ⟨b, off, rfl, c0, c1, c2⟩ := HC.out k l[k] (by simp [hlt])
   obtain ⟨b', off', rfl, c0', c1', c2'⟩ := HC'.out k l[k] (by simp [hlt])
   have d0 := cell_keep hb (Nat.le_refl _) c0
   have d1 := cell_keep hb (Nat.le_refl _) c1
   have d2 := cell_keep hb (Nat.le_refl _) c2
   have d0' := cell_keep hb (Nat.le_refl _) c0'
   have d1' := cell_keep hb (Nat.le_refl _) c1'
   have d2' := cell_keep hb (Nat.le_refl _) c2'
   clear c0 c1 c2 c0' c1' c2' HC HC'
   generalize l[k] = t at *
   have hk0 : (0 : Int) ≤ (k : Int) := by omega
   have hk1 : (k : Int) < (l.length : Int) := by omega
   go_wp2
   go_region_held3 (fun w' => w'.cell? ⟨b, off + k * 3, none⟩ = some (.string t.s) ∧ w'.cell? ⟨b, off + k * 3 + 1, none⟩ = some (.int .i64 t.x) ∧ w'.cell? ⟨b, off + k * 3 + 2, none⟩ = some (.int .i64 t.y) ∧
     w'.cell? ⟨b', off' + k * 3, none⟩ = some (.string t.s) ∧ w'.cell? ⟨b', off' + k * 3 + 1, none⟩ = some (.int .i64 t.x) ∧ w'.cell? ⟨b', off' + k * 3 + 2, none⟩ = some (.int .i64 t.y))
    (first | (simp [*, go_sem]; done) | (refine ⟨cell_keep hb1 (by simp) ?_, cell_keep hb1 (by simp) ?_, cell_keep hb1 (by simp) ?_, cell_keep hb1 (by simp) ?_, cell_keep hb1 (by simp) ?_, cell_keep hb1 (by simp) ?_⟩ <;> simp [*, go_sem]))
    (first | (go_at_call 149; refine (eqPoint_any t _).mono ?_; rintro e w1 ⟨rfl, hb1⟩))
   go_wp2
   exact ⟨⟨k + 1, by omega, by go_num, below_step hb.drew hb1⟩, by simp [intOf]; omega⟩
  ·go_wp2
   go_ret
   exact ⟨rfl, hb⟩
end Go.Proofs.YtcmgddnckohdaaaGreatDoor
namespace Go.Proofs.YtcmgddnckohdaaaGreatDoor
open Go.RowKit
def triRow (t : Tri) : List Value := [.string t.s, .int .i64 t.x, .int .i64 t.y]
structure Filled (w wr : World) (B n : Nat) (l : List Tri) (k : Nat) : Prop where
 below : Below w.heap.size w wr
 big : B < wr.heap.size
 old : w.heap.size ≤ B
 room : wr.there B 0 (n * 3)
 has : ∀ i t, i < k → l[i]? = some t → wr.rangeAt B (i * 3) (triRow t)
theorem there_keep {w w' : World} {B o n : Nat} (h : w.there B o n) (hb : Below w.heap.size w w') (hB : B < w.heap.size) : w'.there B o n := fun j hj => by
 rw [hb.cell (p := ⟨B, o + j, none⟩) hB, hb.frozen (p := ⟨B, o + j, none⟩) hB]; exact h j hj
theorem range_keep {w w' : World} {B o : Nat} {cs : List Value} (h : w.rangeAt B o cs) (hb : Below w.heap.size w w') (hB : B < w.heap.size) : w'.rangeAt B o cs := fun j v hv => by
 rw [hb.cell (p := ⟨B, o + j, none⟩) hB]; exact h j v hv
theorem Filled.call {w wr w1 : World} {B n : Nat} {l : List Tri} {k : Nat} (h : Filled w wr B n l k) (hb : Below wr.heap.size wr w1) : Filled w w1 B n l k :=
 ⟨below_step h.below hb, Nat.lt_of_lt_of_le h.big hb.size, h.old, there_keep h.room hb h.big, fun i t hi ht => range_keep (h.has i t hi ht) hb h.big⟩
theorem Filled.tris {w wr : World} {B : Nat} {l : List Tri} (h : Filled w wr B l.length l l.length) (hm : l.length ≤ maxLen) : TrisAt wr (.slice (some ⟨B, 0, none⟩) l.length l.length) l :=
 ⟨_, _, rfl, Nat.le_refl _, hm, fun i t ht => by
  have hi : i < l.length := (List.getElem?_eq_some_iff.1 ht).1
  have hr := h.has i t hi ht
  refine ⟨B, 0, rfl, ?_, ?_, ?_⟩
  ·simpa using hr 0 (.string t.s) rfl
  ·simpa using hr 1 (.int .i64 t.x) rfl
  ·simpa using hr 2 (.int .i64 t.y) rfl⟩
theorem made_there (w : World) (C : Array Value) (T n : Nat) (hC : C.size = n) : (w.alloc (.cells C T)).there w.heap.size 0 n := fun j hj => by
 have h1 := World.cell?_alloc_at (w := w) C T w.heap.size j rfl
 have h2 := World.frozen?_alloc_at (w := w) C T w.heap.size j rfl
 simp only [Nat.zero_add]
 rw [h1, h2]
 simp; omega
theorem Filled.start (w : World) (C : Array Value) (T n : Nat) (l : List Tri) (hC : C.size = n * 3) : Filled w (w.alloc (.cells C T)) w.heap.size n l 0 :=
 ⟨(Below.refl _ _).alloc (Nat.le_refl _) _, by simp, Nat.le_refl _, made_there w C T _ hC, fun i _ hi => absurd hi (Nat.not_lt_zero _)⟩
open Go.RowKit
structure FilledL (w wr : World) (B n c : Nat) (rows : List (List Value)) : Prop where
 below : Below w.heap.size w wr
 big : B < wr.heap.size
 old : w.heap.size ≤ B
 room : wr.there B 0 (n * c)
 wide : ∀ r ∈ rows, r.length = c
 has : ∀ i r, rows[i]? = some r → wr.rangeAt B (i * c) r
theorem FilledL.call {w wr w1 : World} {B n c : Nat} {rows : List (List Value)} (h : FilledL w wr B n c rows) (hb : Below wr.heap.size wr w1) : FilledL w w1 B n c rows :=
 ⟨below_step h.below hb, Nat.lt_of_lt_of_le h.big hb.size, h.old, there_keep h.room hb h.big, h.wide, fun i r hr => range_keep (h.has i r hr) hb h.big⟩
theorem rows_room {k n c j : Nat} (hk : k < n) (hj : j < c) : k * c + j < n * c :=
 Nat.lt_of_lt_of_le (Nat.add_lt_add_left hj _) (by rw [← Nat.succ_mul]; exact Nat.mul_le_mul_right c hk)
theorem FilledL.start (w : World) (C : Array Value) (T n c : Nat) (hC : C.size = n * c) : FilledL w (w.alloc (.cells C T)) w.heap.size n c [] :=
 ⟨(Below.refl _ _).alloc (Nat.le_refl _) _, by simp, Nat.le_refl _, made_there w C T _ hC, fun r hr => by simp at hr, fun i r hr => by simp at hr⟩
theorem FilledL.cell {w wr : World} {B n c : Nat} {rows : List (List Value)} (h : FilledL w wr B n c rows) {i j : Nat} {r : List Value} {v : Value} (hr : rows[i]? = some r) (hv : r[j]? = some v) : wr.cell? ⟨B, i * c + j, none⟩ = some v := h.has i r hr j v hv
end Go.Proofs.YtcmgddnckohdaaaGreatDoor
