/-
  For the proof of take_holds: part 9 (Mark2, Mark3).
-/
import Derived.Test.YtfjblenkcfdbiaaGreatRowTakeJ8
/-
  The law's marks over slices of rows: every cell is written with a mark of its own, and read back.
-/
namespace Go.Proofs.YtfjblenkcfdbiaaGreat
open Go.RowKit
attribute [local go_sem] Later.cell Later.frozen

theorem toHid {P : Prop} (h : P) : Hid P := h
/-- The mark of cell p: a text or a number, after the pattern of a row. -/
def mkV (c : Nat) (pat : Nat → Bool) (k p : Nat) : Value := if pat (p % c) then .string (mkT (k + p)) else .int .i64 ((k + p : Nat) : Int)
/-- The first p cells of block b, which has room for N, hold their marks; no other block that was there has turned. -/
structure MarkAt (w wr : World) (b N : Nat) (f : Nat → Value) (p : Nat) : Prop where
  grown : w.grownBy wr (some b)
  big : b < w.heap.size
  room : wr.there b 0 N
  has : ∀ q, q < p → wr.cell? ⟨b, q, none⟩ = some (f q)
  stays : ∀ o n, w.there b o n → wr.there b o n
theorem below_grown {w w' : World} (h : Below w.heap.size w w') (r : Option Nat) : w.grownBy w' r := ⟨h.1, h.2, h.3, h.4, fun k hk _ => h.5 k hk⟩
theorem grown_trans {w w1 w2 : World} {r : Option Nat} (h : w.grownBy w1 r) (k : w1.grownBy w2 r) : w.grownBy w2 r :=
  ⟨k.1.trans h.1, k.2.trans h.2, k.3.trans h.3, Nat.le_trans h.4 k.4, fun j hj hr => (k.5 j (Nat.lt_of_lt_of_le hj h.4) hr).trans (h.5 j hj hr)⟩
theorem grown_set (w : World) (b o : Nat) (v : Value) : w.grownBy (w.setCell ⟨b, o, none⟩ v) (some b) :=
  ⟨rfl, rfl, rfl, by simp, fun j _ hr => Below.heap_setCell w ⟨b, o, none⟩ v j (fun e => hr (by rw [e]))⟩
theorem MarkAt.start {w : World} {b N : Nat} (f : Nat → Value) (h : w.there b 0 N) (hb : b < w.heap.size) : MarkAt w w b N f 0 :=
  ⟨below_grown (Below.refl _ _) _, hb, h, fun _ hq => absurd hq (Nat.not_lt_zero _), fun _ _ h => h⟩
theorem MarkAt.call {w wr w1 : World} {b N : Nat} {f : Nat → Value} {p : Nat} (h : MarkAt w wr b N f p) (hb : Below wr.heap.size wr w1) : MarkAt w w1 b N f p := by
  have hbig : b < wr.heap.size := Nat.lt_of_lt_of_le h.big h.grown.4
  exact ⟨grown_trans h.grown (below_grown hb _), h.big, there_keep h.room hb hbig, fun q hq => by
    rw [hb.cell (p := ⟨b, q, none⟩) hbig]; exact h.has q hq, fun o n ho => there_keep (h.stays o n ho) hb hbig⟩
theorem MarkAt.free {w wr : World} {b N : Nat} {f : Nat → Value} {p : Nat} (h : MarkAt w wr b N f p) (q : Nat) (hq : q < N) : (∃ v, wr.cell? ⟨b, q, none⟩ = some v) ∧ wr.frozen? ⟨b, q, none⟩ = false := by
  have := h.room q hq
  simpa [Option.isSome_iff_exists] using this
theorem MarkAt.set {w wr : World} {b N : Nat} {f : Nat → Value} {p : Nat} (h : MarkAt w wr b N f p) (hp : p < N) {v : Value} (hv : f p = v) : MarkAt w (wr.setCell ⟨b, p, none⟩ v) b N f (p + 1) := by
  refine ⟨grown_trans h.grown (grown_set wr b p v), h.big, World.there_setCells h.room b p [v], fun q hq => ?_, fun o n ho => World.there_setCells (h.stays o n ho) b p [v]⟩
  by_cases e : q = p
  · subst e
    obtain ⟨⟨u, hu⟩, _⟩ := h.free q hp
    rw [World.cell?_setCell_same wr ⟨b, q, none⟩ v hu, hv]
  · rw [World.cell?_setCell_other wr ⟨b, p, none⟩ ⟨b, q, none⟩ v (by simp <;> omega)]
    exact h.has q (by omega)
theorem mkV_s {c : Nat} {pat : Nat → Bool} {k i j : Nat} (hj : j < c) (hp : pat j = true) : mkV c pat k (i * c + j) = .string (mkT (k + i * c + j)) := by
  unfold mkV
  rw [show (i * c + j) % c = j by rw [Nat.mul_comm, Nat.mul_add_mod]; exact Nat.mod_eq_of_lt hj, hp, if_pos rfl, Nat.add_assoc]
theorem mkV_i {c : Nat} {pat : Nat → Bool} {k i j : Nat} (hj : j < c) (hp : pat j = false) : mkV c pat k (i * c + j) = .int .i64 ((k + i * c + j : Nat) : Int) := by
  unfold mkV
  rw [show (i * c + j) % c = j by rw [Nat.mul_comm, Nat.mul_add_mod]; exact Nat.mod_eq_of_lt hj, hp, if_neg (by simp), Nat.add_assoc]
def patKind (j : Nat) : Bool := decide (j = 0)
set_option maxHeartbeats 3200000 in
theorem markKinds_any (b n cap k : Nat) (w : World) (hb : b < w.heap.size) (ht : w.there b 0 (n * 3)) (hn : n ≤ 1048576) (hk : k ≤ 1000000000) :
    Calls Tryz.prog 77 #[.slice (some ⟨b, 0, none⟩) n cap, .int .i64 k] w fun e w' => e = .returned (.int .i64 ((k + n * 3 : Nat) : Int)) ∧ MarkAt w w' b (n * 3) (mkV 3 patKind k) (n * 3) := by
  have HT : Hid (w.there b 0 (n * 3)) := ht
  clear ht
  go_enter Tryz.func77, Tryz.ntmps77
  go_wp2
  go_loopw [1, 5] (fun kk i wr => ∃ m : Nat, m ≤ n ∧ i = .int .i64 m ∧ kk = .int .i64 ((k : Int) + (m : Int) * 3) ∧ MarkAt w wr b (n * 3) (mkV 3 patKind k) (m * 3)) (fun _ i _ => n - (intOf i).toNat)
  case atStart => exact ⟨0, Nat.zero_le _, rfl, by simp, by simpa using MarkAt.start _ HT.out hb⟩
  case round =>
    obtain ⟨m, hm, rfl, rfl, hM⟩ := hrel
    have HM0 : Hid (MarkAt w wr b (n * 3) (mkV 3 patKind k) (m * 3)) := hM
    clear hM
    by_cases hlt : m < n
    · have hm0 : (0 : Int) ≤ (m : Int) := by omega
      have hm1 : (m : Int) < (n : Int) := by omega
      have hkm : k + m * 3 + 3 < 10000000000 := by omega
      have room : Hid (∀ j, j < 3 → m * 3 + j < n * 3) := fun j hj => rows_room hlt hj
      have GT0 : Hid (∀ wx : World, Calls Tryz.prog 49 #[.int .i64 ((k : Int) + (m : Int) * 3)] wx fun e w' => e = .returned (.string (mkT (k + m * 3 + 0))) ∧ Below wx.heap.size wx w') := fun wx => by
        have h := markText_any (k + m * 3 + 0) (by omega) wx
        rw [show ((k + m * 3 + 0 : Nat) : Int) = (k : Int) + (m : Int) * 3 by push_cast; omega] at h
        exact h
      have e0 : Hid (mkV 3 patKind k (m * 3 + 0) = .string (mkT (k + m * 3 + 0))) := mkV_s (by omega) rfl
      have e1 : Hid (mkV 3 patKind k (m * 3 + 1) = .int .i64 ((k : Int) + (m : Int) * 3 + 1)) := by
        show _ = _
        rw [mkV_i (by omega) rfl, show ((k + m * 3 + 1 : Nat) : Int) = (k : Int) + (m : Int) * 3 + 1 by push_cast; omega]
      have e2 : Hid (mkV 3 patKind k (m * 3 + 2) = .int .i64 ((k : Int) + (m : Int) * 3 + 1 + 1)) := by
        show _ = _
        rw [mkV_i (by omega) rfl, show ((k + m * 3 + 2 : Nat) : Int) = (k : Int) + (m : Int) * 3 + 1 + 1 by push_cast; omega]
      go_wp2_with fail
      refine (GT0.out _).mono ?_
      rintro e w0 ⟨rfl, hb0⟩
      have hM0 := HM0.out.call hb0
      obtain ⟨⟨v0, c0⟩, f0⟩ := hM0.free (m * 3 + 0) (room.out 0 (by omega))
      simp only [Nat.add_zero] at c0 f0
      obtain ⟨⟨v1, c1⟩, f1⟩ := hM0.free (m * 3 + 1) (room.out 1 (by omega))
      obtain ⟨⟨v2, c2⟩, f2⟩ := hM0.free (m * 3 + 2) (room.out 2 (by omega))
      have HN0 := toHid (((hM0.set (room.out 0 (by omega)) e0.out).set (room.out 1 (by omega)) e1.out).set (room.out 2 (by omega)) e2.out)
      clear hM0 hb0
      go_wp2
      refine ⟨⟨m + 1, by omega, by go_num, by congr 1; push_cast; omega, ?_⟩, by simp [intOf]; omega⟩
      have h := HN0.out
      rw [show m * 3 + 2 + 1 = (m + 1) * 3 by omega] at h
      exact h
    · have HF : Hid (m = n) := by show m = n; omega
      go_wp2
      go_ret
      have h := HM0.out
      rw [HF.out] at h ⊢
      exact ⟨ret_int (by push_cast; rfl), h⟩
def patPoint (j : Nat) : Bool := decide (j = 0)
set_option maxHeartbeats 3200000 in
theorem markPoints_any (b n cap k : Nat) (w : World) (hb : b < w.heap.size) (ht : w.there b 0 (n * 3)) (hn : n ≤ 1048576) (hk : k ≤ 1000000000) :
    Calls Tryz.prog 78 #[.slice (some ⟨b, 0, none⟩) n cap, .int .i64 k] w fun e w' => e = .returned (.int .i64 ((k + n * 3 : Nat) : Int)) ∧ MarkAt w w' b (n * 3) (mkV 3 patPoint k) (n * 3) := by
  have HT : Hid (w.there b 0 (n * 3)) := ht
  clear ht
  go_enter Tryz.func78, Tryz.ntmps78
  go_wp2
  go_loopw [1, 5] (fun kk i wr => ∃ m : Nat, m ≤ n ∧ i = .int .i64 m ∧ kk = .int .i64 ((k : Int) + (m : Int) * 3) ∧ MarkAt w wr b (n * 3) (mkV 3 patPoint k) (m * 3)) (fun _ i _ => n - (intOf i).toNat)
  case atStart => exact ⟨0, Nat.zero_le _, rfl, by simp, by simpa using MarkAt.start _ HT.out hb⟩
  case round =>
    obtain ⟨m, hm, rfl, rfl, hM⟩ := hrel
    have HM0 : Hid (MarkAt w wr b (n * 3) (mkV 3 patPoint k) (m * 3)) := hM
    clear hM
    by_cases hlt : m < n
    · have hm0 : (0 : Int) ≤ (m : Int) := by omega
      have hm1 : (m : Int) < (n : Int) := by omega
      have hkm : k + m * 3 + 3 < 10000000000 := by omega
      have room : Hid (∀ j, j < 3 → m * 3 + j < n * 3) := fun j hj => rows_room hlt hj
      have GT0 : Hid (∀ wx : World, Calls Tryz.prog 49 #[.int .i64 ((k : Int) + (m : Int) * 3)] wx fun e w' => e = .returned (.string (mkT (k + m * 3 + 0))) ∧ Below wx.heap.size wx w') := fun wx => by
        have h := markText_any (k + m * 3 + 0) (by omega) wx
        rw [show ((k + m * 3 + 0 : Nat) : Int) = (k : Int) + (m : Int) * 3 by push_cast; omega] at h
        exact h
      have e0 : Hid (mkV 3 patPoint k (m * 3 + 0) = .string (mkT (k + m * 3 + 0))) := mkV_s (by omega) rfl
      have e1 : Hid (mkV 3 patPoint k (m * 3 + 1) = .int .i64 ((k : Int) + (m : Int) * 3 + 1)) := by
        show _ = _
        rw [mkV_i (by omega) rfl, show ((k + m * 3 + 1 : Nat) : Int) = (k : Int) + (m : Int) * 3 + 1 by push_cast; omega]
      have e2 : Hid (mkV 3 patPoint k (m * 3 + 2) = .int .i64 ((k : Int) + (m : Int) * 3 + 1 + 1)) := by
        show _ = _
        rw [mkV_i (by omega) rfl, show ((k + m * 3 + 2 : Nat) : Int) = (k : Int) + (m : Int) * 3 + 1 + 1 by push_cast; omega]
      go_wp2_with fail
      refine (GT0.out _).mono ?_
      rintro e w0 ⟨rfl, hb0⟩
      have hM0 := HM0.out.call hb0
      obtain ⟨⟨v0, c0⟩, f0⟩ := hM0.free (m * 3 + 0) (room.out 0 (by omega))
      simp only [Nat.add_zero] at c0 f0
      obtain ⟨⟨v1, c1⟩, f1⟩ := hM0.free (m * 3 + 1) (room.out 1 (by omega))
      obtain ⟨⟨v2, c2⟩, f2⟩ := hM0.free (m * 3 + 2) (room.out 2 (by omega))
      have HN0 := toHid (((hM0.set (room.out 0 (by omega)) e0.out).set (room.out 1 (by omega)) e1.out).set (room.out 2 (by omega)) e2.out)
      clear hM0 hb0
      go_wp2
      refine ⟨⟨m + 1, by omega, by go_num, by congr 1; push_cast; omega, ?_⟩, by simp [intOf]; omega⟩
      have h := HN0.out
      rw [show m * 3 + 2 + 1 = (m + 1) * 3 by omega] at h
      exact h
    · have HF : Hid (m = n) := by show m = n; omega
      go_wp2
      go_ret
      have h := HM0.out
      rw [HF.out] at h ⊢
      exact ⟨ret_int (by push_cast; rfl), h⟩
def patField (j : Nat) : Bool := decide (j = 2)
set_option maxHeartbeats 3200000 in
theorem markFields_any (b n cap k : Nat) (w : World) (hb : b < w.heap.size) (ht : w.there b 0 (n * 3)) (hn : n ≤ 1048576) (hk : k ≤ 1000000000) :
    Calls Tryz.prog 79 #[.slice (some ⟨b, 0, none⟩) n cap, .int .i64 k] w fun e w' => e = .returned (.int .i64 ((k + n * 3 : Nat) : Int)) ∧ MarkAt w w' b (n * 3) (mkV 3 patField k) (n * 3) := by
  have HT : Hid (w.there b 0 (n * 3)) := ht
  clear ht
  go_enter Tryz.func79, Tryz.ntmps79
  go_wp2
  go_loopw [1, 5] (fun kk i wr => ∃ m : Nat, m ≤ n ∧ i = .int .i64 m ∧ kk = .int .i64 ((k : Int) + (m : Int) * 3) ∧ MarkAt w wr b (n * 3) (mkV 3 patField k) (m * 3)) (fun _ i _ => n - (intOf i).toNat)
  case atStart => exact ⟨0, Nat.zero_le _, rfl, by simp, by simpa using MarkAt.start _ HT.out hb⟩
  case round =>
    obtain ⟨m, hm, rfl, rfl, hM⟩ := hrel
    have HM0 : Hid (MarkAt w wr b (n * 3) (mkV 3 patField k) (m * 3)) := hM
    clear hM
    by_cases hlt : m < n
    · have hm0 : (0 : Int) ≤ (m : Int) := by omega
      have hm1 : (m : Int) < (n : Int) := by omega
      have hkm : k + m * 3 + 3 < 10000000000 := by omega
      have room : Hid (∀ j, j < 3 → m * 3 + j < n * 3) := fun j hj => rows_room hlt hj
      have e0 : Hid (mkV 3 patField k (m * 3 + 0) = .int .i64 ((k : Int) + (m : Int) * 3)) := by
        show _ = _
        rw [mkV_i (by omega) rfl, show ((k + m * 3 + 0 : Nat) : Int) = (k : Int) + (m : Int) * 3 by push_cast; omega]
      have e1 : Hid (mkV 3 patField k (m * 3 + 1) = .int .i64 ((k : Int) + (m : Int) * 3 + 1)) := by
        show _ = _
        rw [mkV_i (by omega) rfl, show ((k + m * 3 + 1 : Nat) : Int) = (k : Int) + (m : Int) * 3 + 1 by push_cast; omega]
      have GT2 : Hid (∀ wx : World, Calls Tryz.prog 49 #[.int .i64 ((k : Int) + (m : Int) * 3 + 1 + 1)] wx fun e w' => e = .returned (.string (mkT (k + m * 3 + 2))) ∧ Below wx.heap.size wx w') := fun wx => by
        have h := markText_any (k + m * 3 + 2) (by omega) wx
        rw [show ((k + m * 3 + 2 : Nat) : Int) = (k : Int) + (m : Int) * 3 + 1 + 1 by push_cast; omega] at h
        exact h
      have e2 : Hid (mkV 3 patField k (m * 3 + 2) = .string (mkT (k + m * 3 + 2))) := mkV_s (by omega) rfl
      have hM0 := HM0.out
      obtain ⟨⟨v0, c0⟩, f0⟩ := hM0.free (m * 3 + 0) (room.out 0 (by omega))
      simp only [Nat.add_zero] at c0 f0
      obtain ⟨⟨v1, c1⟩, f1⟩ := hM0.free (m * 3 + 1) (room.out 1 (by omega))
      have HN0 := toHid ((hM0.set (room.out 0 (by omega)) e0.out).set (room.out 1 (by omega)) e1.out)
      clear hM0
      go_wp2_with fail
      refine (GT2.out _).mono ?_
      rintro e w1 ⟨rfl, hb1⟩
      have hM1 := HN0.out.call hb1
      obtain ⟨⟨v2, c2⟩, f2⟩ := hM1.free (m * 3 + 2) (room.out 2 (by omega))
      have HN1 := toHid (hM1.set (room.out 2 (by omega)) e2.out)
      clear hM1 hb1
      go_wp2
      refine ⟨⟨m + 1, by omega, by go_num, by congr 1; push_cast; omega, ?_⟩, by simp [intOf]; omega⟩
      have h := HN1.out
      rw [show m * 3 + 2 + 1 = (m + 1) * 3 by omega] at h
      exact h
    · have HF : Hid (m = n) := by show m = n; omega
      go_wp2
      go_ret
      have h := HM0.out
      rw [HF.out] at h ⊢
      exact ⟨ret_int (by push_cast; rfl), h⟩
def patChange (j : Nat) : Bool := decide (j = 0) || decide (j = 3)
set_option maxHeartbeats 3200000 in
theorem markChanges_any (b n cap k : Nat) (w : World) (hb : b < w.heap.size) (ht : w.there b 0 (n * 4)) (hn : n ≤ 1048576) (hk : k ≤ 1000000000) :
    Calls Tryz.prog 20 #[.slice (some ⟨b, 0, none⟩) n cap, .int .i64 k] w fun e w' => e = .returned (.int .i64 ((k + n * 4 : Nat) : Int)) ∧ MarkAt w w' b (n * 4) (mkV 4 patChange k) (n * 4) := by
  have HT : Hid (w.there b 0 (n * 4)) := ht
  clear ht
  go_enter Tryz.func20, Tryz.ntmps20
  go_wp2
  go_loopw [1, 5] (fun kk i wr => ∃ m : Nat, m ≤ n ∧ i = .int .i64 m ∧ kk = .int .i64 ((k : Int) + (m : Int) * 4) ∧ MarkAt w wr b (n * 4) (mkV 4 patChange k) (m * 4)) (fun _ i _ => n - (intOf i).toNat)
  case atStart => exact ⟨0, Nat.zero_le _, rfl, by simp, by simpa using MarkAt.start _ HT.out hb⟩
  case round =>
    obtain ⟨m, hm, rfl, rfl, hM⟩ := hrel
    have HM0 : Hid (MarkAt w wr b (n * 4) (mkV 4 patChange k) (m * 4)) := hM
    clear hM
    by_cases hlt : m < n
    · have hm0 : (0 : Int) ≤ (m : Int) := by omega
      have hm1 : (m : Int) < (n : Int) := by omega
      have hkm : k + m * 4 + 4 < 10000000000 := by omega
      have room : Hid (∀ j, j < 4 → m * 4 + j < n * 4) := fun j hj => rows_room hlt hj
      have GT0 : Hid (∀ wx : World, Calls Tryz.prog 49 #[.int .i64 ((k : Int) + (m : Int) * 4)] wx fun e w' => e = .returned (.string (mkT (k + m * 4 + 0))) ∧ Below wx.heap.size wx w') := fun wx => by
        have h := markText_any (k + m * 4 + 0) (by omega) wx
        rw [show ((k + m * 4 + 0 : Nat) : Int) = (k : Int) + (m : Int) * 4 by push_cast; omega] at h
        exact h
      have e0 : Hid (mkV 4 patChange k (m * 4 + 0) = .string (mkT (k + m * 4 + 0))) := mkV_s (by omega) rfl
      have e1 : Hid (mkV 4 patChange k (m * 4 + 1) = .int .i64 ((k : Int) + (m : Int) * 4 + 1)) := by
        show _ = _
        rw [mkV_i (by omega) rfl, show ((k + m * 4 + 1 : Nat) : Int) = (k : Int) + (m : Int) * 4 + 1 by push_cast; omega]
      have e2 : Hid (mkV 4 patChange k (m * 4 + 2) = .int .i64 ((k : Int) + (m : Int) * 4 + 1 + 1)) := by
        show _ = _
        rw [mkV_i (by omega) rfl, show ((k + m * 4 + 2 : Nat) : Int) = (k : Int) + (m : Int) * 4 + 1 + 1 by push_cast; omega]
      have GT3 : Hid (∀ wx : World, Calls Tryz.prog 49 #[.int .i64 ((k : Int) + (m : Int) * 4 + 1 + 1 + 1)] wx fun e w' => e = .returned (.string (mkT (k + m * 4 + 3))) ∧ Below wx.heap.size wx w') := fun wx => by
        have h := markText_any (k + m * 4 + 3) (by omega) wx
        rw [show ((k + m * 4 + 3 : Nat) : Int) = (k : Int) + (m : Int) * 4 + 1 + 1 + 1 by push_cast; omega] at h
        exact h
      have e3 : Hid (mkV 4 patChange k (m * 4 + 3) = .string (mkT (k + m * 4 + 3))) := mkV_s (by omega) rfl
      go_wp2_with fail
      refine (GT0.out _).mono ?_
      rintro e w0 ⟨rfl, hb0⟩
      have hM0 := HM0.out.call hb0
      obtain ⟨⟨v0, c0⟩, f0⟩ := hM0.free (m * 4 + 0) (room.out 0 (by omega))
      simp only [Nat.add_zero] at c0 f0
      obtain ⟨⟨v1, c1⟩, f1⟩ := hM0.free (m * 4 + 1) (room.out 1 (by omega))
      obtain ⟨⟨v2, c2⟩, f2⟩ := hM0.free (m * 4 + 2) (room.out 2 (by omega))
      have HN0 := toHid (((hM0.set (room.out 0 (by omega)) e0.out).set (room.out 1 (by omega)) e1.out).set (room.out 2 (by omega)) e2.out)
      clear hM0 hb0
      go_wp2_with fail
      refine (GT3.out _).mono ?_
      rintro e w1 ⟨rfl, hb1⟩
      have hM1 := HN0.out.call hb1
      obtain ⟨⟨v3, c3⟩, f3⟩ := hM1.free (m * 4 + 3) (room.out 3 (by omega))
      have HN1 := toHid (hM1.set (room.out 3 (by omega)) e3.out)
      clear hM1 hb1
      go_wp2
      refine ⟨⟨m + 1, by omega, by go_num, by congr 1; push_cast; omega, ?_⟩, by simp [intOf]; omega⟩
      have h := HN1.out
      rw [show m * 4 + 3 + 1 = (m + 1) * 4 by omega] at h
      exact h
    · have HF : Hid (m = n) := by show m = n; omega
      go_wp2
      go_ret
      have h := HM0.out
      rw [HF.out] at h ⊢
      exact ⟨ret_int (by push_cast; rfl), h⟩
set_option maxHeartbeats 3200000 in
theorem heldKinds_any (b n cap k : Nat) (w : World) (hM : ∀ q, q < n * 3 → w.cell? ⟨b, q, none⟩ = some (mkV 3 patKind k q)) (hn : n ≤ 1048576) (hk : k ≤ 1000000000) :
    Calls Tryz.prog 80 #[.slice (some ⟨b, 0, none⟩) n cap, .int .i64 k] w fun e w' => e = .returned (.int .i64 ((k + n * 3 : Nat) : Int)) ∧ Below w.heap.size w w' := by
  have HM : Hid (∀ q, q < n * 3 → w.cell? ⟨b, q, none⟩ = some (mkV 3 patKind k q)) := hM
  clear hM
  go_enter Tryz.func80, Tryz.ntmps80
  go_wp2
  go_loopw [1, 5] (fun kk i wr => ∃ m : Nat, m ≤ n ∧ i = .int .i64 m ∧ kk = .int .i64 ((k : Int) + (m : Int) * 3) ∧ Below w.heap.size w wr) (fun _ i _ => n - (intOf i).toNat)
  case atStart => exact ⟨0, Nat.zero_le _, rfl, by simp, Below.refl _ _⟩
  case round =>
    obtain ⟨m, hm, rfl, rfl, hbw⟩ := hrel
    by_cases hlt : m < n
    · have hm0 : (0 : Int) ≤ (m : Int) := by omega
      have hm1 : (m : Int) < (n : Int) := by omega
      have hkm : k + m * 3 + 3 < 10000000000 := by omega
      have room : Hid (∀ j, j < 3 → m * 3 + j < n * 3) := fun j hj => rows_room hlt hj
      have GT0 : Hid (∀ wx : World, Calls Tryz.prog 49 #[.int .i64 ((k : Int) + (m : Int) * 3)] wx fun e w' => e = .returned (.string (mkT (k + m * 3 + 0))) ∧ Below wx.heap.size wx w') := fun wx => by
        have h := markText_any (k + m * 3 + 0) (by omega) wx
        rw [show ((k + m * 3 + 0 : Nat) : Int) = (k : Int) + (m : Int) * 3 by push_cast; omega] at h
        exact h
      have d0 : w.cell? ⟨b, m * 3 + 0, none⟩ = some (.string (mkT (k + m * 3 + 0))) := by rw [HM.out _ (room.out 0 (by omega)), mkV_s (by omega) rfl]
      have d1 : w.cell? ⟨b, m * 3 + 1, none⟩ = some (.int .i64 ((k : Int) + (m : Int) * 3 + 1)) := by
        rw [HM.out _ (room.out 1 (by omega)), mkV_i (by omega) rfl, show ((k + m * 3 + 1 : Nat) : Int) = (k : Int) + (m : Int) * 3 + 1 by push_cast; omega]
      have d2 : w.cell? ⟨b, m * 3 + 2, none⟩ = some (.int .i64 ((k : Int) + (m : Int) * 3 + 1 + 1)) := by
        rw [HM.out _ (room.out 2 (by omega)), mkV_i (by omega) rfl, show ((k + m * 3 + 2 : Nat) : Int) = (k : Int) + (m : Int) * 3 + 1 + 1 by push_cast; omega]
      simp only [Nat.add_zero] at d0
      have HD := toHid (And.intro d0 (And.intro d1 d2))
      have HBW : Hid (Below w.heap.size w wr) := hbw
      clear d0 d1 d2 hbw
      obtain ⟨d0, d1, d2⟩ := HD.out
      have c0 := cell_keep HBW.out (Nat.le_refl _) d0
      have c1 := cell_keep HBW.out (Nat.le_refl _) d1
      have c2 := cell_keep HBW.out (Nat.le_refl _) d2
      clear d0 d1 d2
      have bz : b < wr.heap.size := lt_of_cell c0
      have hne0 := Later.some wr
      have GL0 : Hid (∀ y : Later wr, Calls Tryz.prog 49 #[.int .i64 ((k : Int) + (m : Int) * 3)] y.val fun e w'' => e = .returned (.string (mkT (k + m * 3 + 0))) ∧ ∃ z : Later wr, w'' = z.val) := fun y => Calls.later (GT0.out y.val)
      go_wp2
      refine wp_region_later (by kernel_rfl) (by kernel_rfl) ?_
      repeat (go_big_quiet_step (first | (go_at_call 49; exact GL0.out _)))
      refine wpQuiet_nil ?_
      rintro _ ⟨x0, rfl⟩
      have HBN0 : Hid (Below w.heap.size w x0.val) := below_step HBW.out x0.below
      generalize x0.val = w0 at *
      clear c0 c1 c2 bz HBW GL0 hne0
      have HBW := HBN0
      clear HBN0
      obtain ⟨d0, d1, d2⟩ := HD.out
      have c0 := cell_keep HBW.out (Nat.le_refl _) d0
      have c1 := cell_keep HBW.out (Nat.le_refl _) d1
      have c2 := cell_keep HBW.out (Nat.le_refl _) d2
      clear d0 d1 d2
      have bz : b < w0.heap.size := lt_of_cell c0
      go_wp2
      exact ⟨⟨m + 1, by omega, by go_num, by congr 1; push_cast; omega, HBW.out⟩, by simp [intOf]; omega⟩
    · have HF : Hid (m = n) := by show m = n; omega
      go_wp2
      go_ret
      rw [HF.out]
      exact ⟨ret_int (by push_cast; rfl), hbw⟩
set_option maxHeartbeats 3200000 in
theorem heldPoints_any (b n cap k : Nat) (w : World) (hM : ∀ q, q < n * 3 → w.cell? ⟨b, q, none⟩ = some (mkV 3 patPoint k q)) (hn : n ≤ 1048576) (hk : k ≤ 1000000000) :
    Calls Tryz.prog 81 #[.slice (some ⟨b, 0, none⟩) n cap, .int .i64 k] w fun e w' => e = .returned (.int .i64 ((k + n * 3 : Nat) : Int)) ∧ Below w.heap.size w w' := by
  have HM : Hid (∀ q, q < n * 3 → w.cell? ⟨b, q, none⟩ = some (mkV 3 patPoint k q)) := hM
  clear hM
  go_enter Tryz.func81, Tryz.ntmps81
  go_wp2
  go_loopw [1, 5] (fun kk i wr => ∃ m : Nat, m ≤ n ∧ i = .int .i64 m ∧ kk = .int .i64 ((k : Int) + (m : Int) * 3) ∧ Below w.heap.size w wr) (fun _ i _ => n - (intOf i).toNat)
  case atStart => exact ⟨0, Nat.zero_le _, rfl, by simp, Below.refl _ _⟩
  case round =>
    obtain ⟨m, hm, rfl, rfl, hbw⟩ := hrel
    by_cases hlt : m < n
    · have hm0 : (0 : Int) ≤ (m : Int) := by omega
      have hm1 : (m : Int) < (n : Int) := by omega
      have hkm : k + m * 3 + 3 < 10000000000 := by omega
      have room : Hid (∀ j, j < 3 → m * 3 + j < n * 3) := fun j hj => rows_room hlt hj
      have GT0 : Hid (∀ wx : World, Calls Tryz.prog 49 #[.int .i64 ((k : Int) + (m : Int) * 3)] wx fun e w' => e = .returned (.string (mkT (k + m * 3 + 0))) ∧ Below wx.heap.size wx w') := fun wx => by
        have h := markText_any (k + m * 3 + 0) (by omega) wx
        rw [show ((k + m * 3 + 0 : Nat) : Int) = (k : Int) + (m : Int) * 3 by push_cast; omega] at h
        exact h
      have d0 : w.cell? ⟨b, m * 3 + 0, none⟩ = some (.string (mkT (k + m * 3 + 0))) := by rw [HM.out _ (room.out 0 (by omega)), mkV_s (by omega) rfl]
      have d1 : w.cell? ⟨b, m * 3 + 1, none⟩ = some (.int .i64 ((k : Int) + (m : Int) * 3 + 1)) := by
        rw [HM.out _ (room.out 1 (by omega)), mkV_i (by omega) rfl, show ((k + m * 3 + 1 : Nat) : Int) = (k : Int) + (m : Int) * 3 + 1 by push_cast; omega]
      have d2 : w.cell? ⟨b, m * 3 + 2, none⟩ = some (.int .i64 ((k : Int) + (m : Int) * 3 + 1 + 1)) := by
        rw [HM.out _ (room.out 2 (by omega)), mkV_i (by omega) rfl, show ((k + m * 3 + 2 : Nat) : Int) = (k : Int) + (m : Int) * 3 + 1 + 1 by push_cast; omega]
      simp only [Nat.add_zero] at d0
      have HD := toHid (And.intro d0 (And.intro d1 d2))
      have HBW : Hid (Below w.heap.size w wr) := hbw
      clear d0 d1 d2 hbw
      obtain ⟨d0, d1, d2⟩ := HD.out
      have c0 := cell_keep HBW.out (Nat.le_refl _) d0
      have c1 := cell_keep HBW.out (Nat.le_refl _) d1
      have c2 := cell_keep HBW.out (Nat.le_refl _) d2
      clear d0 d1 d2
      have bz : b < wr.heap.size := lt_of_cell c0
      have hne0 := Later.some wr
      have GL0 : Hid (∀ y : Later wr, Calls Tryz.prog 49 #[.int .i64 ((k : Int) + (m : Int) * 3)] y.val fun e w'' => e = .returned (.string (mkT (k + m * 3 + 0))) ∧ ∃ z : Later wr, w'' = z.val) := fun y => Calls.later (GT0.out y.val)
      go_wp2
      refine wp_region_later (by kernel_rfl) (by kernel_rfl) ?_
      repeat (go_big_quiet_step (first | (go_at_call 49; exact GL0.out _)))
      refine wpQuiet_nil ?_
      rintro _ ⟨x0, rfl⟩
      have HBN0 : Hid (Below w.heap.size w x0.val) := below_step HBW.out x0.below
      generalize x0.val = w0 at *
      clear c0 c1 c2 bz HBW GL0 hne0
      have HBW := HBN0
      clear HBN0
      obtain ⟨d0, d1, d2⟩ := HD.out
      have c0 := cell_keep HBW.out (Nat.le_refl _) d0
      have c1 := cell_keep HBW.out (Nat.le_refl _) d1
      have c2 := cell_keep HBW.out (Nat.le_refl _) d2
      clear d0 d1 d2
      have bz : b < w0.heap.size := lt_of_cell c0
      go_wp2
      exact ⟨⟨m + 1, by omega, by go_num, by congr 1; push_cast; omega, HBW.out⟩, by simp [intOf]; omega⟩
    · have HF : Hid (m = n) := by show m = n; omega
      go_wp2
      go_ret
      rw [HF.out]
      exact ⟨ret_int (by push_cast; rfl), hbw⟩
set_option maxHeartbeats 3200000 in
theorem heldFields_any (b n cap k : Nat) (w : World) (hM : ∀ q, q < n * 3 → w.cell? ⟨b, q, none⟩ = some (mkV 3 patField k q)) (hn : n ≤ 1048576) (hk : k ≤ 1000000000) :
    Calls Tryz.prog 82 #[.slice (some ⟨b, 0, none⟩) n cap, .int .i64 k] w fun e w' => e = .returned (.int .i64 ((k + n * 3 : Nat) : Int)) ∧ Below w.heap.size w w' := by
  have HM : Hid (∀ q, q < n * 3 → w.cell? ⟨b, q, none⟩ = some (mkV 3 patField k q)) := hM
  clear hM
  go_enter Tryz.func82, Tryz.ntmps82
  go_wp2
  go_loopw [1, 5] (fun kk i wr => ∃ m : Nat, m ≤ n ∧ i = .int .i64 m ∧ kk = .int .i64 ((k : Int) + (m : Int) * 3) ∧ Below w.heap.size w wr) (fun _ i _ => n - (intOf i).toNat)
  case atStart => exact ⟨0, Nat.zero_le _, rfl, by simp, Below.refl _ _⟩
  case round =>
    obtain ⟨m, hm, rfl, rfl, hbw⟩ := hrel
    by_cases hlt : m < n
    · have hm0 : (0 : Int) ≤ (m : Int) := by omega
      have hm1 : (m : Int) < (n : Int) := by omega
      have hkm : k + m * 3 + 3 < 10000000000 := by omega
      have room : Hid (∀ j, j < 3 → m * 3 + j < n * 3) := fun j hj => rows_room hlt hj
      have d0 : w.cell? ⟨b, m * 3 + 0, none⟩ = some (.int .i64 ((k : Int) + (m : Int) * 3)) := by
        rw [HM.out _ (room.out 0 (by omega)), mkV_i (by omega) rfl, show ((k + m * 3 + 0 : Nat) : Int) = (k : Int) + (m : Int) * 3 by push_cast; omega]
      have d1 : w.cell? ⟨b, m * 3 + 1, none⟩ = some (.int .i64 ((k : Int) + (m : Int) * 3 + 1)) := by
        rw [HM.out _ (room.out 1 (by omega)), mkV_i (by omega) rfl, show ((k + m * 3 + 1 : Nat) : Int) = (k : Int) + (m : Int) * 3 + 1 by push_cast; omega]
      have GT2 : Hid (∀ wx : World, Calls Tryz.prog 49 #[.int .i64 ((k : Int) + (m : Int) * 3 + 1 + 1)] wx fun e w' => e = .returned (.string (mkT (k + m * 3 + 2))) ∧ Below wx.heap.size wx w') := fun wx => by
        have h := markText_any (k + m * 3 + 2) (by omega) wx
        rw [show ((k + m * 3 + 2 : Nat) : Int) = (k : Int) + (m : Int) * 3 + 1 + 1 by push_cast; omega] at h
        exact h
      have d2 : w.cell? ⟨b, m * 3 + 2, none⟩ = some (.string (mkT (k + m * 3 + 2))) := by rw [HM.out _ (room.out 2 (by omega)), mkV_s (by omega) rfl]
      simp only [Nat.add_zero] at d0
      have HD := toHid (And.intro d0 (And.intro d1 d2))
      have HBW : Hid (Below w.heap.size w wr) := hbw
      clear d0 d1 d2 hbw
      obtain ⟨d0, d1, d2⟩ := HD.out
      have c0 := cell_keep HBW.out (Nat.le_refl _) d0
      have c1 := cell_keep HBW.out (Nat.le_refl _) d1
      have c2 := cell_keep HBW.out (Nat.le_refl _) d2
      clear d0 d1 d2
      have bz : b < wr.heap.size := lt_of_cell c0
      have hne0 := Later.some wr
      have GL0 : Hid (∀ y : Later wr, Calls Tryz.prog 49 #[.int .i64 ((k : Int) + (m : Int) * 3 + 1 + 1)] y.val fun e w'' => e = .returned (.string (mkT (k + m * 3 + 2))) ∧ ∃ z : Later wr, w'' = z.val) := fun y => Calls.later (GT2.out y.val)
      go_wp2
      refine wp_region_later (by kernel_rfl) (by kernel_rfl) ?_
      repeat (go_big_quiet_step (first | (go_at_call 49; exact GL0.out _)))
      refine wpQuiet_nil ?_
      rintro _ ⟨x0, rfl⟩
      have HBN0 : Hid (Below w.heap.size w x0.val) := below_step HBW.out x0.below
      generalize x0.val = w0 at *
      clear c0 c1 c2 bz HBW GL0 hne0
      have HBW := HBN0
      clear HBN0
      obtain ⟨d0, d1, d2⟩ := HD.out
      have c0 := cell_keep HBW.out (Nat.le_refl _) d0
      have c1 := cell_keep HBW.out (Nat.le_refl _) d1
      have c2 := cell_keep HBW.out (Nat.le_refl _) d2
      clear d0 d1 d2
      have bz : b < w0.heap.size := lt_of_cell c0
      go_wp2
      exact ⟨⟨m + 1, by omega, by go_num, by congr 1; push_cast; omega, HBW.out⟩, by simp [intOf]; omega⟩
    · have HF : Hid (m = n) := by show m = n; omega
      go_wp2
      go_ret
      rw [HF.out]
      exact ⟨ret_int (by push_cast; rfl), hbw⟩
set_option maxHeartbeats 3200000 in
theorem heldChanges_any (b n cap k : Nat) (w : World) (hM : ∀ q, q < n * 4 → w.cell? ⟨b, q, none⟩ = some (mkV 4 patChange k q)) (hn : n ≤ 1048576) (hk : k ≤ 1000000000) :
    Calls Tryz.prog 21 #[.slice (some ⟨b, 0, none⟩) n cap, .int .i64 k] w fun e w' => e = .returned (.int .i64 ((k + n * 4 : Nat) : Int)) ∧ Below w.heap.size w w' := by
  have HM : Hid (∀ q, q < n * 4 → w.cell? ⟨b, q, none⟩ = some (mkV 4 patChange k q)) := hM
  clear hM
  go_enter Tryz.func21, Tryz.ntmps21
  go_wp2
  go_loopw [1, 5] (fun kk i wr => ∃ m : Nat, m ≤ n ∧ i = .int .i64 m ∧ kk = .int .i64 ((k : Int) + (m : Int) * 4) ∧ Below w.heap.size w wr) (fun _ i _ => n - (intOf i).toNat)
  case atStart => exact ⟨0, Nat.zero_le _, rfl, by simp, Below.refl _ _⟩
  case round =>
    obtain ⟨m, hm, rfl, rfl, hbw⟩ := hrel
    by_cases hlt : m < n
    · have hm0 : (0 : Int) ≤ (m : Int) := by omega
      have hm1 : (m : Int) < (n : Int) := by omega
      have hkm : k + m * 4 + 4 < 10000000000 := by omega
      have room : Hid (∀ j, j < 4 → m * 4 + j < n * 4) := fun j hj => rows_room hlt hj
      have GT0 : Hid (∀ wx : World, Calls Tryz.prog 49 #[.int .i64 ((k : Int) + (m : Int) * 4)] wx fun e w' => e = .returned (.string (mkT (k + m * 4 + 0))) ∧ Below wx.heap.size wx w') := fun wx => by
        have h := markText_any (k + m * 4 + 0) (by omega) wx
        rw [show ((k + m * 4 + 0 : Nat) : Int) = (k : Int) + (m : Int) * 4 by push_cast; omega] at h
        exact h
      have d0 : w.cell? ⟨b, m * 4 + 0, none⟩ = some (.string (mkT (k + m * 4 + 0))) := by rw [HM.out _ (room.out 0 (by omega)), mkV_s (by omega) rfl]
      have d1 : w.cell? ⟨b, m * 4 + 1, none⟩ = some (.int .i64 ((k : Int) + (m : Int) * 4 + 1)) := by
        rw [HM.out _ (room.out 1 (by omega)), mkV_i (by omega) rfl, show ((k + m * 4 + 1 : Nat) : Int) = (k : Int) + (m : Int) * 4 + 1 by push_cast; omega]
      have d2 : w.cell? ⟨b, m * 4 + 2, none⟩ = some (.int .i64 ((k : Int) + (m : Int) * 4 + 1 + 1)) := by
        rw [HM.out _ (room.out 2 (by omega)), mkV_i (by omega) rfl, show ((k + m * 4 + 2 : Nat) : Int) = (k : Int) + (m : Int) * 4 + 1 + 1 by push_cast; omega]
      have GT3 : Hid (∀ wx : World, Calls Tryz.prog 49 #[.int .i64 ((k : Int) + (m : Int) * 4 + 1 + 1 + 1)] wx fun e w' => e = .returned (.string (mkT (k + m * 4 + 3))) ∧ Below wx.heap.size wx w') := fun wx => by
        have h := markText_any (k + m * 4 + 3) (by omega) wx
        rw [show ((k + m * 4 + 3 : Nat) : Int) = (k : Int) + (m : Int) * 4 + 1 + 1 + 1 by push_cast; omega] at h
        exact h
      have d3 : w.cell? ⟨b, m * 4 + 3, none⟩ = some (.string (mkT (k + m * 4 + 3))) := by rw [HM.out _ (room.out 3 (by omega)), mkV_s (by omega) rfl]
      simp only [Nat.add_zero] at d0
      have HD := toHid (And.intro d0 (And.intro d1 (And.intro d2 d3)))
      have HBW : Hid (Below w.heap.size w wr) := hbw
      clear d0 d1 d2 d3 hbw
      obtain ⟨d0, d1, d2, d3⟩ := HD.out
      have c0 := cell_keep HBW.out (Nat.le_refl _) d0
      have c1 := cell_keep HBW.out (Nat.le_refl _) d1
      have c2 := cell_keep HBW.out (Nat.le_refl _) d2
      have c3 := cell_keep HBW.out (Nat.le_refl _) d3
      clear d0 d1 d2 d3
      have bz : b < wr.heap.size := lt_of_cell c0
      have hne0 := Later.some wr
      have GL0 : Hid (∀ y : Later wr, Calls Tryz.prog 49 #[.int .i64 ((k : Int) + (m : Int) * 4)] y.val fun e w'' => e = .returned (.string (mkT (k + m * 4 + 0))) ∧ ∃ z : Later wr, w'' = z.val) := fun y => Calls.later (GT0.out y.val)
      go_wp2
      refine wp_region_later (by kernel_rfl) (by kernel_rfl) ?_
      repeat (go_big_quiet_step (first | (go_at_call 49; exact GL0.out _)))
      refine wpQuiet_nil ?_
      rintro _ ⟨x0, rfl⟩
      have HBN0 : Hid (Below w.heap.size w x0.val) := below_step HBW.out x0.below
      generalize x0.val = w0 at *
      clear c0 c1 c2 c3 bz HBW GL0 hne0
      have HBW := HBN0
      clear HBN0
      obtain ⟨d0, d1, d2, d3⟩ := HD.out
      have c0 := cell_keep HBW.out (Nat.le_refl _) d0
      have c1 := cell_keep HBW.out (Nat.le_refl _) d1
      have c2 := cell_keep HBW.out (Nat.le_refl _) d2
      have c3 := cell_keep HBW.out (Nat.le_refl _) d3
      clear d0 d1 d2 d3
      have bz : b < w0.heap.size := lt_of_cell c0
      have hne1 := Later.some w0
      have GL1 : Hid (∀ y : Later w0, Calls Tryz.prog 49 #[.int .i64 ((k : Int) + (m : Int) * 4 + 1 + 1 + 1)] y.val fun e w'' => e = .returned (.string (mkT (k + m * 4 + 3))) ∧ ∃ z : Later w0, w'' = z.val) := fun y => Calls.later (GT3.out y.val)
      go_wp2
      refine wp_region_later (by kernel_rfl) (by kernel_rfl) ?_
      repeat (go_big_quiet_step (first | (go_at_call 49; exact GL1.out _)))
      refine wpQuiet_nil ?_
      rintro _ ⟨x1, rfl⟩
      have HBN1 : Hid (Below w.heap.size w x1.val) := below_step HBW.out x1.below
      generalize x1.val = w1 at *
      clear c0 c1 c2 c3 bz HBW GL1 hne1
      have HBW := HBN1
      clear HBN1
      obtain ⟨d0, d1, d2, d3⟩ := HD.out
      have c0 := cell_keep HBW.out (Nat.le_refl _) d0
      have c1 := cell_keep HBW.out (Nat.le_refl _) d1
      have c2 := cell_keep HBW.out (Nat.le_refl _) d2
      have c3 := cell_keep HBW.out (Nat.le_refl _) d3
      clear d0 d1 d2 d3
      have bz : b < w1.heap.size := lt_of_cell c0
      go_wp2
      exact ⟨⟨m + 1, by omega, by go_num, by congr 1; push_cast; omega, HBW.out⟩, by simp [intOf]; omega⟩
    · have HF : Hid (m = n) := by show m = n; omega
      go_wp2
      go_ret
      rw [HF.out]
      exact ⟨ret_int (by push_cast; rfl), hbw⟩
end Go.Proofs.YtfjblenkcfdbiaaGreat

/-
  The law's marks over books: what they may turn.
-/
namespace Go.Proofs.YtfjblenkcfdbiaaGreat
open Go.RowKit

/-- Blocks from lo up to hi may have turned, and new ones come; what could be written can be. -/
structure Only (lo hi : Nat) (w w' : World) : Prop where
  below : Below lo w w'
  up : ∀ k, hi ≤ k → k < w.heap.size → w'.heap[k]? = w.heap[k]?
  stays : ∀ B o n, B < w.heap.size → w.there B o n → w'.there B o n
theorem Only.refl (lo hi : Nat) (w : World) : Only lo hi w w := ⟨Below.refl _ _, fun _ _ _ => rfl, fun _ _ _ _ h => h⟩
theorem Only.trans {lo hi : Nat} {w w1 w2 : World} (h : Only lo hi w w1) (k : Only lo hi w1 w2) : Only lo hi w w2 :=
  ⟨h.below.trans k.below, fun j hj hl => (k.up j hj (Nat.lt_of_lt_of_le hl h.below.size)).trans (h.up j hj hl), fun B o n hB ht => k.stays B o n (Nat.lt_of_lt_of_le hB h.below.size) (h.stays B o n hB ht)⟩
theorem Only.call {lo hi : Nat} {w w1 : World} (hb : Below w.heap.size w w1) (hl : lo ≤ w.heap.size) : Only lo hi w w1 :=
  ⟨hb.mono hl, fun j _ hj => hb.block j hj, fun _ _ _ hB ht => there_keep ht hb hB⟩
theorem Only.mark {lo hi : Nat} {w w1 : World} {b N p : Nat} {f : Nat → Value} (h : MarkAt w w1 b N f p) (hl : lo ≤ b) (hh : b < hi) : Only lo hi w w1 :=
  ⟨⟨h.grown.os, h.grown.tape, h.grown.output, h.grown.size, fun j hj => h.grown.block j (by have := h.big; omega) (by simp; omega)⟩,
   fun j hj hl' => h.grown.block j hl' (by simp; omega),
   fun B o n hB ht => by
     by_cases e : B = b
     · subst e; exact h.stays o n ht
     · intro q hq
       have hblk := h.grown.block B hB (by simp; exact e)
       have := ht q hq
       rw [World.cell?_of_block (w := w) hblk, World.frozen?_of_block (w := w) hblk]
       exact this⟩
theorem Only.set {lo hi : Nat} (w : World) {b o : Nat} (v : Value) (hl : lo ≤ b) (hh : b < hi) : Only lo hi w (w.setCell ⟨b, o, none⟩ v) :=
  ⟨(Below.refl _ _).setCell (p := ⟨b, o, none⟩) hl v, fun j hj _ => Below.heap_setCell w ⟨b, o, none⟩ v j (by show j ≠ b; omega), fun _ _ _ _ ht => World.there_setCells ht b o [v]⟩

set_option maxHeartbeats 1600000 in
theorem markBase_any (bk bp nk np k lo hi : Nat) (w : World) (hk : bk < w.heap.size) (hp : bp < w.heap.size) (tk : w.there bk 0 (nk * 3)) (tp : w.there bp 0 (np * 3)) (ek : nk ≤ 1048576) (ep : np ≤ 1048576) (hk8 : k ≤ 100000000)
    (l1 : lo ≤ bk) (l2 : lo ≤ bp) (h1 : bk < hi) (h2 : bp < hi) (hlo : lo ≤ w.heap.size) :
    Calls Tryz.prog 37 #[.agg #[.slice (some ⟨bk, 0, none⟩) nk nk, .slice (some ⟨bp, 0, none⟩) np np], .int .i64 k] w fun e w' => e = .returned (.int .i64 ((k + nk * 3 + np * 3 : Nat) : Int)) ∧ Only lo hi w w' ∧ ∀ j, j < w.heap.size → j ≠ bk → j ≠ bp → w'.heap[j]? = w.heap[j]? := by
  have HX0 : Hid (OwnAt w (w.alloc (.cells #[.slice (some ⟨bk, 0, none⟩) nk nk, .slice (some ⟨bp, 0, none⟩) np np] 36)) [[.slice (some ⟨bk, 0, none⟩) nk nk, .slice (some ⟨bp, 0, none⟩) np np]]) := (OwnAt.start w).push rfl _ _
  have HT : Hid (w.there bk 0 (nk * 3) ∧ w.there bp 0 (np * 3)) := ⟨tk, tp⟩
  clear tk tp
  go_enter Tryz.func37, Tryz.ntmps37
  go_wp2_with fail
  refine (markKinds_any bk nk nk k _ (by simp; omega) (there_keep HT.out.1 HX0.out.below hk) ek (by omega)).mono ?_
  rintro e w1 ⟨rfl, hM1⟩
  have HO1 : Hid (Only lo hi w w1) := (Only.call HX0.out.below hlo).trans (Only.mark hM1 l1 h1)
  have hne : ¬ w.heap.size = bk := by omega
  have y0 : w1.cell? ⟨w.heap.size, 0, none⟩ = some (.slice (some ⟨bk, 0, none⟩) nk nk) := by
    rw [World.cell?_of_block (w := w.alloc _) (hM1.grown.block w.heap.size (by simp) (by simp; omega))]; simp
  have y1 : w1.cell? ⟨w.heap.size, 1, none⟩ = some (.slice (some ⟨bp, 0, none⟩) np np) := by
    rw [World.cell?_of_block (w := w.alloc _) (hM1.grown.block w.heap.size (by simp) (by simp; omega))]; simp
  have HJ1 : Hid (∀ j, j < w.heap.size → j ≠ bk → w1.heap[j]? = w.heap[j]?) := fun j hj h1 => (hM1.grown.block j (by simp; omega) (by simp; exact h1)).trans (HX0.out.below.block j hj)
  clear hM1
  generalize hkk : k + nk * 3 = k1 at *
  have hk1 : k1 ≤ 1000000000 := by omega
  go_wp2_with fail
  refine (markPoints_any bp np np k1 _ (Nat.lt_of_lt_of_le hp HO1.out.below.size) (HO1.out.stays _ _ _ hp HT.out.2) ep hk1).mono ?_
  rintro e w2 ⟨rfl, hM2⟩
  have HO2 : Hid (Only lo hi w w2) := HO1.out.trans (Only.mark hM2 l2 h2)
  have HJ2 : Hid (∀ j, j < w1.heap.size → j ≠ bp → w2.heap[j]? = w1.heap[j]?) := fun j hj h1 => hM2.grown.block j hj (by simp; exact h1)
  clear hM2
  generalize hk2 : k1 + np * 3 = k2 at *
  go_wp2
  go_ret
  exact ⟨ret_int (by rw [← hk2, ← hkk]), HO2.out, fun j hj h1 h2 => (HJ2.out j (Nat.lt_of_lt_of_le hj HO1.out.below.size) h2).trans (HJ1.out j hj h1)⟩

/-- What marking entries needs. -/
structure EntsMk (lo hi : Nat) (w : World) (b : Nat) (es : List Ent) : Prop where
  l : lo ≤ b
  h : b < hi
  z : b < w.heap.size
  t : w.there b 0 (es.length * 2)
  f : ∀ (i : Nat) (e : Ent), es[i]? = some e → ∃ fb : Nat, fb ≠ b ∧ lo ≤ fb ∧ fb < hi ∧ fb < w.heap.size ∧ w.cell? ⟨b, i * 2 + 1, none⟩ = some (.slice (some ⟨fb, 0, none⟩) e.fs.length e.fs.length) ∧ w.there fb 0 (e.fs.length * 3)
theorem EntsMk.call {lo hi : Nat} {w w1 : World} {b : Nat} {es : List Ent} (h : EntsMk lo hi w b es) (hb : Below w.heap.size w w1) : EntsMk lo hi w1 b es :=
  ⟨h.l, h.h, Nat.lt_of_lt_of_le h.z hb.size, there_keep h.t hb h.z, fun i e he => by
    obtain ⟨fb, f0, f1, f2, f3, f4, f5⟩ := h.f i e he
    exact ⟨fb, f0, f1, f2, Nat.lt_of_lt_of_le f3 hb.size, cell_keep hb (Nat.le_refl _) f4, there_keep f5 hb f3⟩⟩
theorem EntsMk.set {lo hi : Nat} {w : World} {b : Nat} {es : List Ent} (h : EntsMk lo hi w b es) (m : Nat) (v : Value) : EntsMk lo hi (w.setCell ⟨b, m * 2, none⟩ v) b es :=
  ⟨h.l, h.h, by simpa using h.z, World.there_setCells h.t b (m * 2) [v], fun i e he => by
    obtain ⟨fb, f0, f1, f2, f3, f4, f5⟩ := h.f i e he
    exact ⟨fb, f0, f1, f2, by simpa using f3, (World.cell?_setCell_other w ⟨b, m * 2, none⟩ ⟨b, i * 2 + 1, none⟩ v (by simp <;> omega)).trans f4, World.there_setCells f5 b (m * 2) [v]⟩⟩
theorem EntsMk.mark {lo hi : Nat} {w w1 : World} {b fb N p : Nat} {g : Nat → Value} {es : List Ent} (h : EntsMk lo hi w b es) (hM : MarkAt w w1 fb N g p) (hne : fb ≠ b) (hl : lo ≤ fb) (hh : fb < hi) : EntsMk lo hi w1 b es := by
  have ho : Only lo hi w w1 := Only.mark hM hl hh
  refine ⟨h.l, h.h, Nat.lt_of_lt_of_le h.z hM.grown.size, ho.stays _ _ _ h.z h.t, fun i e he => ?_⟩
  obtain ⟨fb', f0, f1, f2, f3, f4, f5⟩ := h.f i e he
  exact ⟨fb', f0, f1, f2, Nat.lt_of_lt_of_le f3 hM.grown.size, (World.cell?_of_block (w := w) (hM.grown.block b h.z (by simp; omega))).trans f4, ho.stays _ _ _ f3 f5⟩

set_option maxHeartbeats 3200000 in
theorem markEntries_any (b k lo hi : Nat) (es : List Ent) (w : World) (hE : EntsMk lo hi w b es) (hel : es.length ≤ 1048576) (hsz : sumN (fun e => e.fs.length) es ≤ 1048576) (hk8 : k ≤ 200000000) (hlo : lo ≤ w.heap.size) :
    Calls Tryz.prog 38 #[.slice (some ⟨b, 0, none⟩) es.length es.length, .int .i64 k] w fun e w' => (∃ k' : Nat, k ≤ k' ∧ k' ≤ k + 4194304 ∧ e = .returned (.int .i64 (k' : Int))) ∧ Only lo hi w w' := by
  have HS : Hid (∀ m, sumN (fun e : Ent => e.fs.length) (es.take m) ≤ 1048576) := fun m => Nat.le_trans (sumN_take_le _ es m) hsz
  have HE : Hid (EntsMk lo hi w b es) := hE
  clear hE
  go_enter Tryz.func38, Tryz.ntmps38
  go_wp2
  go_loopw [1, 5] (fun kk i wr => ∃ m s : Nat, m ≤ es.length ∧ i = .int .i64 m ∧ Hid (sumN (fun e : Ent => e.fs.length) (es.take m) = s) ∧ kk = .int .i64 ((k + m + s * 3 : Nat) : Int) ∧ EntsMk lo hi wr b es ∧ Only lo hi w wr) (fun _ i _ => es.length - (intOf i).toNat)
  case atStart => exact ⟨0, 0, Nat.zero_le _, rfl, rfl, rfl, HE.out, Only.refl _ _ _⟩
  case round =>
    obtain ⟨m, s, hm, rfl, HQ, rfl, hE, hO⟩ := hrel
    have HE1 : Hid (EntsMk lo hi wr b es) := hE
    have HO1 : Hid (Only lo hi w wr) := hO
    have hs1 : s ≤ 1048576 := by rw [← HQ.out]; exact HS.out m
    clear hE hO
    by_cases hlt : m < es.length
    · have hm0 : (0 : Int) ≤ (m : Int) := by omega
      have hm1 : (m : Int) < (es.length : Int) := by omega
      have HT : Hid (sumN (fun e : Ent => e.fs.length) (es.take (m + 1)) = s + (eat es m).fs.length) := by
        show _ = _
        rw [sumN_take_succ _ es m _ (eat_get hlt), HQ.out]
      have hs2 : s + (eat es m).fs.length ≤ 1048576 := by rw [← HT.out]; exact HS.out (m + 1)
      have HG : Hid (es[m]? = some (eat es m)) := eat_get hlt
      generalize eat es m = t at *
      have hlo1 : lo ≤ wr.heap.size := Nat.le_trans hlo HO1.out.below.size
      generalize hK : k + m + s * 3 = K at *
      go_wp2_with fail
      refine (markText_any K (by omega) _).mono ?_
      rintro e w1 ⟨rfl, hb1⟩
      have hE1 := HE1.out.call hb1
      obtain ⟨⟨v0, c0⟩, f0⟩ : (∃ v, w1.cell? ⟨b, m * 2, none⟩ = some v) ∧ w1.frozen? ⟨b, m * 2, none⟩ = false := by
        have := hE1.t (m * 2) (by omega)
        simpa [Option.isSome_iff_exists] using this
      have HE2 : Hid (EntsMk lo hi (w1.setCell ⟨b, m * 2, none⟩ (.string (mkT K))) b es) := hE1.set m _
      have HO2 : Hid (Only lo hi w (w1.setCell ⟨b, m * 2, none⟩ (.string (mkT K)))) := (HO1.out.trans (Only.call hb1 hlo1)).trans (Only.set _ _ hE1.l hE1.h)
      obtain ⟨fb, g0, g1, g2, g3, g4, g5⟩ := hE1.f m t HG.out
      clear hb1
      have c1 : w1.cell? ⟨b, m * 2 + 1, none⟩ = some (.slice (some ⟨fb, 0, none⟩) t.fs.length t.fs.length) := g4
      have HF : Hid ((w1.setCell ⟨b, m * 2, none⟩ (.string (mkT K))).there fb 0 (t.fs.length * 3)) := World.there_setCells g5 b (m * 2) [.string (mkT K)]
      have HW : Hid (Calls Tryz.prog 79 #[.slice (some ⟨fb, 0, none⟩) t.fs.length t.fs.length, .int .i64 ((K : Int) + 1)] (w1.setCell ⟨b, m * 2, none⟩ (.string (mkT K))) fun e w' => e = .returned (.int .i64 ((K + 1 + t.fs.length * 3 : Nat) : Int)) ∧ MarkAt (w1.setCell ⟨b, m * 2, none⟩ (.string (mkT K))) w' fb (t.fs.length * 3) (mkV 3 patField (K + 1)) (t.fs.length * 3)) := by
        have h := markFields_any fb t.fs.length t.fs.length (K + 1) (w1.setCell ⟨b, m * 2, none⟩ (.string (mkT K))) (by simpa using g3) HF.out (by omega) (by omega)
        rw [show ((K + 1 : Nat) : Int) = (K : Int) + 1 by push_cast; rfl] at h
        exact h
      clear hE1 g4 g5
      go_wp2_with fail
      refine HW.out.mono ?_
      rintro e w2 ⟨rfl, hM2⟩
      have HE3 : Hid (EntsMk lo hi w2 b es) := HE2.out.mark hM2 g0 g1 g2
      have HO3 : Hid (Only lo hi w w2) := HO2.out.trans (Only.mark hM2 g1 g2)
      clear hM2 HW HF
      generalize hK2 : K + 1 + t.fs.length * 3 = K2 at *
      go_wp2
      exact ⟨⟨m + 1, s + t.fs.length, by omega, by go_num, HT, by congr 1; omega, HE3.out, HO3.out⟩, by simp [intOf]; omega⟩
    · generalize hK : k + m + s * 3 = K at *
      go_wp2
      go_ret
      exact ⟨⟨K, by omega, by omega, rfl⟩, HO1.out⟩

theorem there_same {w0 w : World} {B o n : Nat} (h : w0.there B o n) (he : w.heap[B]? = w0.heap[B]?) : w.there B o n := by
  intro q hq
  have := h q hq
  rw [World.cell?_of_block (w := w0) he, World.frozen?_of_block (w := w0) he]
  exact this
theorem EntsMk.of {lo : Nat} {w0 w : World} {ve : Value} {es : List Ent} (h : EntsOwn lo w0 ve es) (hb : ∀ k, lo ≤ k → k < w0.heap.size → w.heap[k]? = w0.heap[k]?) (hs : w0.heap.size ≤ w.heap.size) : ∃ b : Nat, ve = .slice (some ⟨b, 0, none⟩) es.length es.length ∧ EntsMk lo w0.heap.size w b es := by
  obtain ⟨b, rows, hl, hv, hh, _, hr⟩ := h
  refine ⟨b, hv, hl, hh.big, Nat.lt_of_lt_of_le hh.big hs, there_same hh.room (hb b hl hh.big), fun i e he => ?_⟩
  obtain ⟨fb, h0, h1, h2, h3⟩ := hr i e he
  exact ⟨fb, h0, h1, h3.big, Nat.lt_of_lt_of_le h3.big hs, (World.cell?_of_block (w := w0) (hb b hl hh.big)).trans (hh.cell h2 (j := 1) rfl), there_same h3.room (hb fb h1 h3.big)⟩
theorem EntsMk.only {lo hi : Nat} {w w1 : World} {b : Nat} {es : List Ent} (h : EntsMk lo hi w b es) (ho : Only lo hi w w1) (hs : w1.heap[b]? = w.heap[b]?) : EntsMk lo hi w1 b es :=
  ⟨h.l, h.h, Nat.lt_of_lt_of_le h.z ho.below.size, ho.stays _ _ _ h.z h.t, fun i e he => by
    obtain ⟨fb, f0, f1, f2, f3, f4, f5⟩ := h.f i e he
    exact ⟨fb, f0, f1, f2, Nat.lt_of_lt_of_le f3 ho.below.size, (World.cell?_of_block (w := w) hs).trans f4, ho.stays _ _ _ f3 f5⟩⟩

set_option maxHeartbeats 1600000 in
theorem markBook_any (vk vp ve : Value) (ks ps : List Tri) (es : List Ent) (k lo : Nat) (w0 w : World) (hB : BookOwn lo w0 vk vp ve ks ps es) (hb0 : ∀ k, lo ≤ k → k < w0.heap.size → w.heap[k]? = w0.heap[k]?) (hsz0 : w0.heap.size ≤ w.heap.size) (sB : BSmall ks ps es) (hsz : sumN (fun e => e.fs.length) es ≤ 1048576) (hk8 : k ≤ 100000000) :
    Calls Tryz.prog 13 #[.agg #[vk, vp, ve], .int .i64 k] w fun e w' => (∃ k' : Nat, k ≤ k' ∧ k' ≤ k + 16777216 ∧ e = .returned (.int .i64 (k' : Int))) ∧ Only lo w0.heap.size w w' := by
  obtain ⟨⟨bk, lk, rfl, hk⟩, ⟨bp, lp, rfl, hp⟩, he, hd⟩ := hB
  obtain ⟨be, rfl, hE⟩ := EntsMk.of he hb0 hsz0
  have hne : bk ≠ be := hd _ _ _ _ _ _ (.inl rfl) rfl
  have hne' : bp ≠ be := hd _ _ _ _ _ _ (.inr rfl) rfl
  have HE : Hid (EntsMk lo w0.heap.size w be es) := hE
  have HKP : Hid (w.there bk 0 (ks.length * 3) ∧ w.there bp 0 (ps.length * 3)) := ⟨there_same hk.room (hb0 bk lk hk.big), there_same hp.room (hb0 bp lp hp.big)⟩
  have hk0 := hk.big
  have hp0 := hp.big
  have he0 := hE.h
  have SB : Hid (BSmall ks ps es) := sB
  have sk := sB.k
  have sp := sB.p
  clear hk hp he hE sB hd
  have HX0 : Hid (Below w.heap.size w (w.alloc (.cells #[.slice (some ⟨bk, 0, none⟩) ks.length ks.length, .slice (some ⟨bp, 0, none⟩) ps.length ps.length, .slice (some ⟨be, 0, none⟩) es.length es.length] 39))) := (Below.refl _ _).alloc (Nat.le_refl _) _
  go_enter Tryz.func13, Tryz.ntmps13
  go_wp2_with fail
  refine (markBase_any bk bp ks.length ps.length k lo w0.heap.size _ (by simp; omega) (by simp; omega) (there_keep HKP.out.1 HX0.out (by omega)) (there_keep HKP.out.2 HX0.out (by omega)) sk sp hk8 lk lp hk0 hp0 (by simp; omega)).mono ?_
  rintro e w1 ⟨rfl, hO1, hJ1⟩
  have HO1 : Hid (Only lo w0.heap.size w w1) := (Only.call HX0.out (by omega)).trans hO1
  have HE1 : Hid (EntsMk lo w0.heap.size w1 be es) := (HE.out.call HX0.out).only hO1 (hJ1 be (by simp; omega) (Ne.symm hne) (Ne.symm hne'))
  have y0 : w1.cell? ⟨w.heap.size, 0, none⟩ = some (.slice (some ⟨bk, 0, none⟩) ks.length ks.length) := by
    rw [World.cell?_of_block (w := w.alloc _) (hO1.up w.heap.size (by omega) (by simp))]; simp
  have y1 : w1.cell? ⟨w.heap.size, 1, none⟩ = some (.slice (some ⟨bp, 0, none⟩) ps.length ps.length) := by
    rw [World.cell?_of_block (w := w.alloc _) (hO1.up w.heap.size (by omega) (by simp))]; simp
  have y2 : w1.cell? ⟨w.heap.size, 2, none⟩ = some (.slice (some ⟨be, 0, none⟩) es.length es.length) := by
    rw [World.cell?_of_block (w := w.alloc _) (hO1.up w.heap.size (by omega) (by simp))]; simp
  clear hO1 hJ1
  generalize hK : k + ks.length * 3 + ps.length * 3 = K at *
  go_wp2_with fail
  refine (markEntries_any be K lo w0.heap.size es _ HE1.out SB.out.e hsz (by omega) (by have := HO1.out.below.size; omega)).mono ?_
  rintro e w2 ⟨⟨k', h1, h2, rfl⟩, hO2⟩
  have HO2 : Hid (Only lo w0.heap.size w w2) := HO1.out.trans hO2
  clear hO2
  go_wp2
  go_ret
  exact ⟨⟨k', by omega, by omega, rfl⟩, HO2.out⟩
end Go.Proofs.YtfjblenkcfdbiaaGreat
