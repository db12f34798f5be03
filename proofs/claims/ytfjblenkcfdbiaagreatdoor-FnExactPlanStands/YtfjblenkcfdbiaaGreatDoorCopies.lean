
/-
  Copies of lists of kinds and of points: new memory that reads the same.
-/
import Derived.Test.YtfjblenkcfdbiaaGreatDoorSlices
namespace Go.Proofs.YtfjblenkcfdbiaaGreatDoor
open Go.RowKit

def triRow (t : Tri) : List Value := [.string t.s, .int .i64 t.x, .int .i64 t.y]

/-- The first k of l lie in block B, which has room for n of them. -/
structure Filled (w wr : World) (B n : Nat) (l : List Tri) (k : Nat) : Prop where
  below : Below w.heap.size w wr
  big : B < wr.heap.size
  old : w.heap.size ≤ B
  room : wr.there B 0 (n * 3)
  has : ∀ i t, i < k → l[i]? = some t → wr.rangeAt B (i * 3) (triRow t)

theorem there_keep {w w' : World} {B o n : Nat} (h : w.there B o n) (hb : Below w.heap.size w w') (hB : B < w.heap.size) : w'.there B o n := fun j hj => by
  rw [hb.cell (p := ⟨B, o + j, none⟩) hB, hb.frozen (p := ⟨B, o + j, none⟩) hB]; exact h j hj
theorem range_keep {w w' : World} {B o : Nat} {cs : List Value} (h : w.rangeAt B o cs) (hb : Below w.heap.size w w') (hB : B < w.heap.size) : w'.rangeAt B o cs := fun j v hv => by
  rw [hb.cell (p := ⟨B, o + j, none⟩) hB]; exact h j v hv

theorem Filled.call {w wr w1 : World} {B n : Nat} {l : List Tri} {k : Nat} (h : Filled w wr B n l k) (hb : Below wr.heap.size wr w1) : Filled w w1 B n l k :=
  ⟨below_step h.below hb, Nat.lt_of_lt_of_le h.big hb.size, h.old, there_keep h.room hb h.big, fun i t hi ht => range_keep (h.has i t hi ht) hb h.big⟩

theorem setCells_below {w : World} {B o : Nat} {vs : List Value} (C : Nat) (h : C ≤ B) : Below C w (w.setCells B o vs) := by
  induction vs generalizing w o with
  | nil => exact Below.refl _ _
  | cons v vs ih =>
    have := (Below.setCell (p := ⟨B, o, none⟩) (Below.refl C w) h v).trans (ih (w := w.setCell ⟨B, o, none⟩ v) (o := o + 1))
    simpa [World.setCells] using this

theorem Filled.store {w wr : World} {B n : Nat} {l : List Tri} {k : Nat} (h : Filled w wr B n l k) (hk : k < n) {t : Tri} (ht : l[k]? = some t) :
    Filled w (wr.setCells B (k * 3) (triRow t)) B n l (k + 1) := by
  have hthere : wr.there B (k * 3) (triRow t).length := fun j hj => by
    have := h.room (k * 3 + j) (by simp [triRow] at hj; omega)
    simpa using this
  refine ⟨h.below.trans (setCells_below _ h.old), ?_, h.old, World.there_setCells h.room _ _ _, fun i u hi hu => ?_⟩
  · exact Nat.lt_of_lt_of_le h.big (setCells_below (w := wr) (B := B) (o := k * 3) (vs := triRow t) 0 (Nat.zero_le _)).size
  · by_cases e : i = k
    · subst e
      rw [ht] at hu; cases hu
      exact World.rangeAt_setCells_same _ _ _ _ hthere
    · exact World.rangeAt_setCells_apart (h.has i u (by omega) hu) _ _ _ (.inr (.inl (by simp [triRow]; omega)))

theorem Filled.tris {w wr : World} {B : Nat} {l : List Tri} (h : Filled w wr B l.length l l.length) (hm : l.length ≤ maxLen) : TrisAt wr (.slice (some ⟨B, 0, none⟩) l.length l.length) l :=
  ⟨_, _, rfl, Nat.le_refl _, hm, fun i t ht => by
    have hi : i < l.length := (List.getElem?_eq_some_iff.1 ht).1
    have hr := h.has i t hi ht
    refine ⟨B, 0, rfl, ?_, ?_, ?_⟩
    · simpa using hr 0 (.string t.s) rfl
    · simpa using hr 1 (.int .i64 t.x) rfl
    · simpa using hr 2 (.int .i64 t.y) rfl⟩

theorem made_there (w : World) (C : Array Value) (T n : Nat) (hC : C.size = n) : (w.alloc (.cells C T)).there w.heap.size 0 n := fun j hj => by
  have h1 := World.cell?_alloc_at (w := w) C T w.heap.size j rfl
  have h2 := World.frozen?_alloc_at (w := w) C T w.heap.size j rfl
  simp only [Nat.zero_add]
  rw [h1, h2]
  simp; omega

theorem Filled.start (w : World) (C : Array Value) (T n : Nat) (l : List Tri) (hC : C.size = n * 3) : Filled w (w.alloc (.cells C T)) w.heap.size n l 0 :=
  ⟨(Below.refl _ _).alloc (Nat.le_refl _) _, by simp, Nat.le_refl _, made_there w C T _ hC, fun i _ hi => absurd hi (Nat.not_lt_zero _)⟩

theorem infoKind : (Tryz.prog.info? 42).map (fun i => (i.zero, i.size, i.bytes)) = some (some (.agg #[.string ByteArray.empty, .int .i64 0, .int .i64 0]), 3, 32) := by kernel_rfl

set_option maxHeartbeats 800000 in
theorem toKinds_own (v : Value) (l : List Tri) (w : World) (hv : TrisAt w v l) (hn : l.length ≤ 1048576) :
    Calls Tryz.prog 50 #[v] w fun e w' => e = .returned (.slice (some ⟨w.heap.size, 0, none⟩) l.length l.length) ∧ Filled w w' w.heap.size l.length l l.length := by
  obtain ⟨a, cap, rfl, hlc, hcm, hc⟩ := hv
  unfold maxLen at hcm
  have HC : Hid (∀ i t, l[i]? = some t → ∃ b off, a = some ⟨b, off, none⟩ ∧
      w.cell? ⟨b, off + i * 3, none⟩ = some (.string t.s) ∧ w.cell? ⟨b, off + i * 3 + 1, none⟩ = some (.int .i64 t.x) ∧ w.cell? ⟨b, off + i * 3 + 2, none⟩ = some (.int .i64 t.y)) := hc
  clear hc
  obtain ⟨i0, hi, hz0, hz1, hz2⟩ := info_parts infoKind
  have hmk : ∀ w : World, (Instr.makeSlice 31 (.int .i64 (l.length : Int)) (.int .i64 (l.length : Int))).run Tryz.prog w = .ok (.slice (some ⟨w.heap.size, 0, none⟩) l.length l.length) (w.alloc (.cells (madeCells (Value.agg #[.string ByteArray.empty, .int .i64 0, .int .i64 0]).cells (l.length * 3)) 42)) := fun w => by
    have h := run_make (P := Tryz.prog) w 31 42 i0 _ Tryz.underlying31 hi hz0 .i64 .i64 l.length l.length (by omega) (by omega) (by rw [hz2]; omega) (by omega)
    rw [hz1] at h
    simpa using h
  have HM : Hid ((madeCells (Value.agg #[.string ByteArray.empty, .int .i64 0, .int .i64 0]).cells (l.length * 3)).size = l.length * 3) := size_madeCells _ _
  generalize madeCells (Value.agg #[.string ByteArray.empty, .int .i64 0, .int .i64 0]).cells (l.length * 3) = C at hmk HM
  clear hi hz0 hz1 hz2
  go_enter Tryz.func50, Tryz.ntmps50
  go_wp2
  go_loopw [4] (fun i wr => ∃ k : Nat, k ≤ l.length ∧ i = .int .i64 k ∧ Filled w wr w.heap.size l.length l k) (fun i _ => l.length - (intOf i).toNat)
  case atStart => exact ⟨0, Nat.zero_le _, rfl, Filled.start w C _ _ l HM.out⟩
  case round =>
    obtain ⟨k, hk, rfl, hf⟩ := hrel
    by_cases hlt : k < l.length
    · have hk? : l[k]? = some (at' l k) := at_get hlt
      obtain ⟨b, off, rfl, c0, c1, c2⟩ := HC.out k _ hk?
      have HK : Hid (l[k]? = some (at' l k)) := hk?
      have d0 := cell_keep hf.below (Nat.le_refl _) c0
      have d1 := cell_keep hf.below (Nat.le_refl _) c1
      have d2 := cell_keep hf.below (Nat.le_refl _) c2
      clear c0 c1 c2 HC hk?
      generalize at' l k = t at *
      have hk0 : (0 : Int) ≤ (k : Int) := by omega
      have hk1 : (k : Int) < (l.length : Int) := by omega
      go_wp2_with fail
      refine (toKind_any t _).mono ?_
      rintro e w1 ⟨rfl, hb1⟩
      have hf1 := hf.call hb1
      have e0 := hf1.room (k * 3) (by omega)
      have e1 := hf1.room (k * 3 + 1) (by omega)
      have e2 := hf1.room (k * 3 + 2) (by omega)
      simp only [Nat.zero_add, Option.isSome_iff_exists] at e0 e1 e2
      obtain ⟨⟨v0, e0⟩, f0⟩ := e0
      obtain ⟨⟨v1, e1⟩, f1⟩ := e1
      obtain ⟨⟨v2, e2⟩, f2⟩ := e2
      go_wp2
      exact ⟨⟨k + 1, by omega, by go_num, hf1.store hlt HK.out⟩, by simp [intOf]; omega⟩
    · go_wp2
      go_ret
      obtain rfl : k = l.length := by omega
      exact ⟨rfl, hf⟩
theorem toKinds_any (v : Value) (l : List Tri) (w : World) (hv : TrisAt w v l) (hn : l.length ≤ 1048576) :
    Calls Tryz.prog 50 #[v] w fun e w' => e = .returned (.slice (some ⟨w.heap.size, 0, none⟩) l.length l.length) ∧ TrisAt w' (.slice (some ⟨w.heap.size, 0, none⟩) l.length l.length) l ∧ Below w.heap.size w w' ∧ w.heap.size < w'.heap.size :=
  (toKinds_own v l w hv hn).mono fun _ _ ⟨he, hf⟩ => ⟨he, hf.tris (by unfold maxLen; omega), hf.below, hf.big⟩
theorem infoPoint : (Tryz.prog.info? 57).map (fun i => (i.zero, i.size, i.bytes)) = some (some (.agg #[.string ByteArray.empty, .int .i64 0, .int .i64 0]), 3, 32) := by kernel_rfl

set_option maxHeartbeats 800000 in
theorem toPoints_own (v : Value) (l : List Tri) (w : World) (hv : TrisAt w v l) (hn : l.length ≤ 1048576) :
    Calls Tryz.prog 51 #[v] w fun e w' => e = .returned (.slice (some ⟨w.heap.size, 0, none⟩) l.length l.length) ∧ Filled w w' w.heap.size l.length l l.length := by
  obtain ⟨a, cap, rfl, hlc, hcm, hc⟩ := hv
  unfold maxLen at hcm
  have HC : Hid (∀ i t, l[i]? = some t → ∃ b off, a = some ⟨b, off, none⟩ ∧
      w.cell? ⟨b, off + i * 3, none⟩ = some (.string t.s) ∧ w.cell? ⟨b, off + i * 3 + 1, none⟩ = some (.int .i64 t.x) ∧ w.cell? ⟨b, off + i * 3 + 2, none⟩ = some (.int .i64 t.y)) := hc
  clear hc
  obtain ⟨i0, hi, hz0, hz1, hz2⟩ := info_parts infoPoint
  have hmk : ∀ w : World, (Instr.makeSlice 32 (.int .i64 (l.length : Int)) (.int .i64 (l.length : Int))).run Tryz.prog w = .ok (.slice (some ⟨w.heap.size, 0, none⟩) l.length l.length) (w.alloc (.cells (madeCells (Value.agg #[.string ByteArray.empty, .int .i64 0, .int .i64 0]).cells (l.length * 3)) 57)) := fun w => by
    have h := run_make (P := Tryz.prog) w 32 57 i0 _ Tryz.underlying32 hi hz0 .i64 .i64 l.length l.length (by omega) (by omega) (by rw [hz2]; omega) (by omega)
    rw [hz1] at h
    simpa using h
  have HM : Hid ((madeCells (Value.agg #[.string ByteArray.empty, .int .i64 0, .int .i64 0]).cells (l.length * 3)).size = l.length * 3) := size_madeCells _ _
  generalize madeCells (Value.agg #[.string ByteArray.empty, .int .i64 0, .int .i64 0]).cells (l.length * 3) = C at hmk HM
  clear hi hz0 hz1 hz2
  go_enter Tryz.func51, Tryz.ntmps51
  go_wp2
  go_loopw [4] (fun i wr => ∃ k : Nat, k ≤ l.length ∧ i = .int .i64 k ∧ Filled w wr w.heap.size l.length l k) (fun i _ => l.length - (intOf i).toNat)
  case atStart => exact ⟨0, Nat.zero_le _, rfl, Filled.start w C _ _ l HM.out⟩
  case round =>
    obtain ⟨k, hk, rfl, hf⟩ := hrel
    by_cases hlt : k < l.length
    · have hk? : l[k]? = some (at' l k) := at_get hlt
      obtain ⟨b, off, rfl, c0, c1, c2⟩ := HC.out k _ hk?
      have HK : Hid (l[k]? = some (at' l k)) := hk?
      have d0 := cell_keep hf.below (Nat.le_refl _) c0
      have d1 := cell_keep hf.below (Nat.le_refl _) c1
      have d2 := cell_keep hf.below (Nat.le_refl _) c2
      clear c0 c1 c2 HC hk?
      generalize at' l k = t at *
      have hk0 : (0 : Int) ≤ (k : Int) := by omega
      have hk1 : (k : Int) < (l.length : Int) := by omega
      go_wp2_with fail
      refine (toPoint_any t _).mono ?_
      rintro e w1 ⟨rfl, hb1⟩
      have hf1 := hf.call hb1
      have e0 := hf1.room (k * 3) (by omega)
      have e1 := hf1.room (k * 3 + 1) (by omega)
      have e2 := hf1.room (k * 3 + 2) (by omega)
      simp only [Nat.zero_add, Option.isSome_iff_exists] at e0 e1 e2
      obtain ⟨⟨v0, e0⟩, f0⟩ := e0
      obtain ⟨⟨v1, e1⟩, f1⟩ := e1
      obtain ⟨⟨v2, e2⟩, f2⟩ := e2
      go_wp2
      exact ⟨⟨k + 1, by omega, by go_num, hf1.store hlt HK.out⟩, by simp [intOf]; omega⟩
    · go_wp2
      go_ret
      obtain rfl : k = l.length := by omega
      exact ⟨rfl, hf⟩
theorem toPoints_any (v : Value) (l : List Tri) (w : World) (hv : TrisAt w v l) (hn : l.length ≤ 1048576) :
    Calls Tryz.prog 51 #[v] w fun e w' => e = .returned (.slice (some ⟨w.heap.size, 0, none⟩) l.length l.length) ∧ TrisAt w' (.slice (some ⟨w.heap.size, 0, none⟩) l.length l.length) l ∧ Below w.heap.size w w' ∧ w.heap.size < w'.heap.size :=
  (toPoints_own v l w hv hn).mono fun _ _ ⟨he, hf⟩ => ⟨he, hf.tris (by unfold maxLen; omega), hf.below, hf.big⟩
end Go.Proofs.YtfjblenkcfdbiaaGreatDoor
