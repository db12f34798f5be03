import Derived.Test.YtcmgddnckohdaaaGreatDoorBook7

namespace Go.Proofs.YtcmgddnckohdaaaGreatDoor
open Go.RowKit
attribute [local go_sem] Later.cell Later.frozen
theorem toHid {P : Prop} (h : P) : Hid P := h
def mkV (c : Nat) (pat : Nat → Bool) (k p : Nat) : Value := if pat (p % c) then .string (mkT (k + p)) else .int .i64 ((k + p : Nat) : Int)
structure MarkAt (w wr : World) (b N : Nat) (f : Nat → Value) (p : Nat) : Prop where
 grown : w.grownBy wr (some b)
 big : b < w.heap.size
 room : wr.there b 0 N
 has : ∀ q, q < p → wr.cell? ⟨b, q, none⟩ = some (f q)
 stays : ∀ o n, w.there b o n → wr.there b o n
theorem below_grown {w w' : World} (h : Below w.heap.size w w') (r : Option Nat) : w.grownBy w' r := ⟨h.1, h.2, h.3, h.4, fun k hk _ => h.5 k hk⟩
theorem grown_trans {w w1 w2 : World} {r : Option Nat} (h : w.grownBy w1 r) (k : w1.grownBy w2 r) : w.grownBy w2 r :=
 ⟨k.1.trans h.1, k.2.trans h.2, k.3.trans h.3, Nat.le_trans h.4 k.4, fun j hj hr => (k.5 j (Nat.lt_of_lt_of_le hj h.4) hr).trans (h.5 j hj hr)⟩
theorem grown_set (w : World) (b o : Nat) (v : Value) : w.grownBy (w.setCell ⟨b, o, none⟩ v) (some b) :=
 ⟨rfl, rfl, rfl, by simp, fun j _ hr => Below.heap_setCell w ⟨b, o, none⟩ v j (fun e => hr (by rw [e]))⟩
theorem MarkAt.start {w : World} {b N : Nat} (f : Nat → Value) (h : w.there b 0 N) (hb : b < w.heap.size) : MarkAt w w b N f 0 :=
 ⟨below_grown (Below.refl _ _) _, hb, h, fun _ hq => absurd hq (Nat.not_lt_zero _), fun _ _ h => h⟩
theorem MarkAt.call {w wr w1 : World} {b N : Nat} {f : Nat → Value} {p : Nat} (h : MarkAt w wr b N f p) (hb : Below wr.heap.size wr w1) : MarkAt w w1 b N f p := by
 have hbig : b < wr.heap.size := Nat.lt_of_lt_of_le h.big h.grown.4
 exact ⟨grown_trans h.grown (below_grown hb _), h.big, there_keep h.room hb hbig, fun q hq => by
  rw [hb.cell (p := ⟨b, q, none⟩) hbig]; exact h.has q hq, fun o n ho => there_keep (h.stays o n ho) hb hbig⟩
theorem MarkAt.free {w wr : World} {b N : Nat} {f : Nat → Value} {p : Nat} (h : MarkAt w wr b N f p) (q : Nat) (hq : q < N) : (∃ v, wr.cell? ⟨b, q, none⟩ = some v) ∧ wr.frozen? ⟨b, q, none⟩ = false := by
 have := h.room q hq
 simpa [Option.isSome_iff_exists] using this
theorem MarkAt.set {w wr : World} {b N : Nat} {f : Nat → Value} {p : Nat} (h : MarkAt w wr b N f p) (hp : p < N) {v : Value} (hv : f p = v) : MarkAt w (wr.setCell ⟨b, p, none⟩ v) b N f (p + 1) := by
 refine ⟨grown_trans h.grown (grown_set wr b p v), h.big, World.there_setCells h.room b p [v], fun q hq => ?_, fun o n ho => World.there_setCells (h.stays o n ho) b p [v]⟩
 by_cases e : q = p
 ·subst e
  obtain ⟨⟨u, hu⟩, _⟩ := h.free q hp
  rw [World.cell?_setCell_same wr ⟨b, q, none⟩ v hu, hv]
 ·rw [World.cell?_setCell_other wr ⟨b, p, none⟩ ⟨b, q, none⟩ v (by simp <;> omega)]
  exact h.has q (by omega)
theorem mkV_s {c : Nat} {pat : Nat → Bool} {k i j : Nat} (hj : j < c) (hp : pat j = true) : mkV c pat k (i * c + j) = .string (mkT (k + i * c + j)) := by
 unfold mkV
 rw [show (i * c + j) % c = j by rw [Nat.mul_comm, Nat.mul_add_mod]; exact Nat.mod_eq_of_lt hj, hp, if_pos rfl, Nat.add_assoc]
theorem mkV_i {c : Nat} {pat : Nat → Bool} {k i j : Nat} (hj : j < c) (hp : pat j = false) : mkV c pat k (i * c + j) = .int .i64 ((k + i * c + j : Nat) : Int) := by
 unfold mkV
 rw [show (i * c + j) % c = j by rw [Nat.mul_comm, Nat.mul_add_mod]; exact Nat.mod_eq_of_lt hj, hp, if_neg (by simp), Nat.add_assoc]
def patKind (j : Nat) : Bool := decide (j = 0)
set_option maxHeartbeats 3200000 in
theorem markKinds_any (b n cap k : Nat) (w : World) (hb : b < w.heap.size) (ht : w.there b 0 (n * 3)) (hn : n ≤ 1048576) (hk : k ≤ 1000000000) :
  Calls Tryz.prog 102 #[.slice (some ⟨b, 0, none⟩) n cap, .int .i64 k] w fun e w' => e = .returned (.int .i64 ((k + n * 3 : Nat) : Int)) ∧ MarkAt w w' b (n * 3) (mkV 3 patKind k) (n * 3) := by
 have HT : Hid (w.there b 0 (n * 3)) := ht
 clear ht
 go_enter Tryz.func102, Tryz.ntmps102
 go_wp2
 go_loopw [1, 5] (fun kk i wr => ∃ m : Nat, m ≤ n ∧ i = .int .i64 m ∧ kk = .int .i64 ((k : Int) + (m : Int) * 3) ∧ MarkAt w wr b (n * 3) (mkV 3 patKind k) (m * 3)) (fun _ i _ => n - (intOf i).toNat)
 case atStart => exact ⟨0, Nat.zero_le _, rfl, by simp, by simpa using MarkAt.start _ HT.out hb⟩
 case round =>
  obtain ⟨m, hm, rfl, rfl, hM⟩ := hrel
  have HM0 : Hid (MarkAt w wr b (n * 3) (mkV 3 patKind k) (m * 3)) := hM
  clear hM
  by_cases hlt : m < n
  ·have hm0 : (0 : Int) ≤ (m : Int) := by omega
   have hm1 : (m : Int) < (n : Int) := by omega
   have hkm : k + m * 3 + 3 < 10000000000 := by omega
   have room : Hid (∀ j, j < 3 → m * 3 + j < n * 3) := fun j hj => rows_room hlt hj
   have GT0 : Hid (∀ wx : World, Calls Tryz.prog 104 #[.int .i64 ((k : Int) + (m : Int) * 3)] wx fun e w' => e = .returned (.string (mkT (k + m * 3 + 0))) ∧ Below wx.heap.size wx w') := fun wx => by
    have h := markText_any (k + m * 3 + 0) (by omega) wx
    rw [show ((k + m * 3 + 0 : Nat) : Int) = (k : Int) + (m : Int) * 3 by push_cast; omega] at h
    exact h
   have e0 : Hid (mkV 3 patKind k (m * 3 + 0) = .string (mkT (k + m * 3 + 0))) := mkV_s (by omega) rfl
   have e1 : Hid (mkV 3 patKind k (m * 3 + 1) = .int .i64 ((k : Int) + (m : Int) * 3 + 1)) := by
    show _ = _
    rw [mkV_i (by omega) rfl, show ((k + m * 3 + 1 : Nat) : Int) = (k : Int) + (m : Int) * 3 + 1 by push_cast; omega]
   have e2 : Hid (mkV 3 patKind k (m * 3 + 2) = .int .i64 ((k : Int) + (m : Int) * 3 + 1 + 1)) := by
    show _ = _
    rw [mkV_i (by omega) rfl, show ((k + m * 3 + 2 : Nat) : Int) = (k : Int) + (m : Int) * 3 + 1 + 1 by push_cast; omega]
   go_wp2_with fail
   refine (GT0.out _).mono ?_
   rintro e w0 ⟨rfl, hb0⟩
   have hM0 := HM0.out.call hb0
   obtain ⟨⟨v0, c0⟩, f0⟩ := hM0.free (m * 3 + 0) (room.out 0 (by omega))
   simp only [Nat.add_zero] at c0 f0
   obtain ⟨⟨v1, c1⟩, f1⟩ := hM0.free (m * 3 + 1) (room.out 1 (by omega))
   obtain ⟨⟨v2, c2⟩, f2⟩ := hM0.free (m * 3 + 2) (room.out 2 (by omega))
   have HN0 := toHid (((hM0.set (room.out 0 (by omega)) e0.out).set (room.out 1 (by omega)) e1.out).set (room.out 2 (by omega)) e2.out)
   clear hM0 hb0
   go_wp2
   refine ⟨⟨m + 1, by omega, by go_num, by congr 1; push_cast; omega, ?_⟩, by simp [intOf]; omega⟩
   have h := HN0.out
   rw [show m * 3 + 2 + 1 = (m + 1) * 3 by omega] at h
   exact h
  ·have HF : Hid (m = n) := by show m = n; omega
   go_wp2
   go_ret
   have h := HM0.out
   rw [HF.out] at h ⊢
   exact ⟨ret_int (by push_cast; rfl), h⟩
def patPoint (j : Nat) : Bool := decide (j = 0)
set_option maxHeartbeats 3200000 in
theorem markPoints_any (b n cap k : Nat) (w : World) (hb : b < w.heap.size) (ht : w.there b 0 (n * 3)) (hn : n ≤ 1048576) (hk : k ≤ 1000000000) :
  Calls Tryz.prog 103 #[.slice (some ⟨b, 0, none⟩) n cap, .int .i64 k] w fun e w' => e = .returned (.int .i64 ((k + n * 3 : Nat) : Int)) ∧ MarkAt w w' b (n * 3) (mkV 3 patPoint k) (n * 3) := by
 have HT : Hid (w.there b 0 (n * 3)) := ht
 clear ht
 go_enter Tryz.func103, Tryz.ntmps103
 go_wp2
 go_loopw [1, 5] (fun kk i wr => ∃ m : Nat, m ≤ n ∧ i = .int .i64 m ∧ kk = .int .i64 ((k : Int) + (m : Int) * 3) ∧ MarkAt w wr b (n * 3) (mkV 3 patPoint k) (m * 3)) (fun _ i _ => n - (intOf i).toNat)
 case atStart => exact ⟨0, Nat.zero_le _, rfl, by simp, by simpa using MarkAt.start _ HT.out hb⟩
 case round =>
  obtain ⟨m, hm, rfl, rfl, hM⟩ := hrel
  have HM0 : Hid (MarkAt w wr b (n * 3) (mkV 3 patPoint k) (m * 3)) := hM
  clear hM
  by_cases hlt : m < n
  ·have hm0 : (0 : Int) ≤ (m : Int) := by omega
   have hm1 : (m : Int) < (n : Int) := by omega
   have hkm : k + m * 3 + 3 < 10000000000 := by omega
   have room : Hid (∀ j, j < 3 → m * 3 + j < n * 3) := fun j hj => rows_room hlt hj
   have GT0 : Hid (∀ wx : World, Calls Tryz.prog 104 #[.int .i64 ((k : Int) + (m : Int) * 3)] wx fun e w' => e = .returned (.string (mkT (k + m * 3 + 0))) ∧ Below wx.heap.size wx w') := fun wx => by
    have h := markText_any (k + m * 3 + 0) (by omega) wx
    rw [show ((k + m * 3 + 0 : Nat) : Int) = (k : Int) + (m : Int) * 3 by push_cast; omega] at h
    exact h
   have e0 : Hid (mkV 3 patPoint k (m * 3 + 0) = .string (mkT (k + m * 3 + 0))) := mkV_s (by omega) rfl
   have e1 : Hid (mkV 3 patPoint k (m * 3 + 1) = .int .i64 ((k : Int) + (m : Int) * 3 + 1)) := by
    show _ = _
    rw [mkV_i (by omega) rfl, show ((k + m * 3 + 1 : Nat) : Int) = (k : Int) + (m : Int) * 3 + 1 by push_cast; omega]
   have e2 : Hid (mkV 3 patPoint k (m * 3 + 2) = .int .i64 ((k : Int) + (m : Int) * 3 + 1 + 1)) := by
    show _ = _
    rw [mkV_i (by omega) rfl, show ((k + m * 3 + 2 : Nat) : Int) = (k : Int) + (m : Int) * 3 + 1 + 1 by push_cast; omega]
   go_wp2_with fail
   refine (GT0.out _).mono ?_
   rintro e w0 ⟨rfl, hb0⟩
   have hM0 := HM0.out.call hb0
   obtain ⟨⟨v0, c0⟩, f0⟩ := hM0.free (m * 3 + 0) (room.out 0 (by omega))
   simp only [Nat.add_zero] at c0 f0
   obtain ⟨⟨v1, c1⟩, f1⟩ := hM0.free (m * 3 + 1) (room.out 1 (by omega))
   obtain ⟨⟨v2, c2⟩, f2⟩ := hM0.free (m * 3 + 2) (room.out 2 (by omega))
   have HN0 := toHid (((hM0.set (room.out 0 (by omega)) e0.out).set (room.out 1 (by omega)) e1.out).set (room.out 2 (by omega)) e2.out)
   clear hM0 hb0
   go_wp2
   refine ⟨⟨m + 1, by omega, by go_num, by congr 1; push_cast; omega, ?_⟩, by simp [intOf]; omega⟩
   have h := HN0.out
   rw [show m * 3 + 2 + 1 = (m + 1) * 3 by omega] at h
   exact h
  ·have HF : Hid (m = n) := by show m = n; omega
   go_wp2
   go_ret
   have h := HM0.out
   rw [HF.out] at h ⊢
   exact ⟨ret_int (by push_cast; rfl), h⟩
def patField (j : Nat) : Bool := decide (j = 2)
set_option maxHeartbeats 3200000 in
theorem markFields_any (b n cap k : Nat) (w : World) (hb : b < w.heap.size) (ht : w.there b 0 (n * 3)) (hn : n ≤ 1048576) (hk : k ≤ 1000000000) :
  Calls Tryz.prog 105 #[.slice (some ⟨b, 0, none⟩) n cap, .int .i64 k] w fun e w' => e = .returned (.int .i64 ((k + n * 3 : Nat) : Int)) ∧ MarkAt w w' b (n * 3) (mkV 3 patField k) (n * 3) := by
 have HT : Hid (w.there b 0 (n * 3)) := ht
 clear ht
 go_enter Tryz.func105, Tryz.ntmps105
 go_wp2
 go_loopw [1, 5] (fun kk i wr => ∃ m : Nat, m ≤ n ∧ i = .int .i64 m ∧ kk = .int .i64 ((k : Int) + (m : Int) * 3) ∧ MarkAt w wr b (n * 3) (mkV 3 patField k) (m * 3)) (fun _ i _ => n - (intOf i).toNat)
 case atStart => exact ⟨0, Nat.zero_le _, rfl, by simp, by simpa using MarkAt.start _ HT.out hb⟩
 case round =>
  obtain ⟨m, hm, rfl, rfl, hM⟩ := hrel
  have HM0 : Hid (MarkAt w wr b (n * 3) (mkV 3 patField k) (m * 3)) := hM
  clear hM
  by_cases hlt : m < n
  ·have hm0 : (0 : Int) ≤ (m : Int) := by omega
   have hm1 : (m : Int) < (n : Int) := by omega
   have hkm : k + m * 3 + 3 < 10000000000 := by omega
   have room : Hid (∀ j, j < 3 → m * 3 + j < n * 3) := fun j hj => rows_room hlt hj
   have e0 : Hid (mkV 3 patField k (m * 3 + 0) = .int .i64 ((k : Int) + (m : Int) * 3)) := by
    show _ = _
    rw [mkV_i (by omega) rfl, show ((k + m * 3 + 0 : Nat) : Int) = (k : Int) + (m : Int) * 3 by push_cast; omega]
   have e1 : Hid (mkV 3 patField k (m * 3 + 1) = .int .i64 ((k : Int) + (m : Int) * 3 + 1)) := by
    show _ = _
    rw [mkV_i (by omega) rfl, show ((k + m * 3 + 1 : Nat) : Int) = (k : Int) + (m : Int) * 3 + 1 by push_cast; omega]
   have GT2 : Hid (∀ wx : World, Calls Tryz.prog 104 #[.int .i64 ((k : Int) + (m : Int) * 3 + 1 + 1)] wx fun e w' => e = .returned (.string (mkT (k + m * 3 + 2))) ∧ Below wx.heap.size wx w') := fun wx => by
    have h := markText_any (k + m * 3 + 2) (by omega) wx
    rw [show ((k + m * 3 + 2 : Nat) : Int) = (k : Int) + (m : Int) * 3 + 1 + 1 by push_cast; omega] at h
    exact h
   have e2 : Hid (mkV 3 patField k (m * 3 + 2) = .string (mkT (k + m * 3 + 2))) := mkV_s (by omega) rfl
   have hM0 := HM0.out
   obtain ⟨⟨v0, c0⟩, f0⟩ := hM0.free (m * 3 + 0) (room.out 0 (by omega))
   simp only [Nat.add_zero] at c0 f0
   obtain ⟨⟨v1, c1⟩, f1⟩ := hM0.free (m * 3 + 1) (room.out 1 (by omega))
   have HN0 := toHid ((hM0.set (room.out 0 (by omega)) e0.out).set (room.out 1 (by omega)) e1.out)
   clear hM0
   go_wp2_with fail
   refine (GT2.out _).mono ?_
   rintro e w1 ⟨rfl, hb1⟩
   have hM1 := HN0.out.call hb1
   obtain ⟨⟨v2, c2⟩, f2⟩ := hM1.free (m * 3 + 2) (room.out 2 (by omega))
   have HN1 := toHid (hM1.set (room.out 2 (by omega)) e2.out)
   clear hM1 hb1
   go_wp2
   refine ⟨⟨m + 1, by omega, by go_num, by congr 1; push_cast; omega, ?_⟩, by simp [intOf]; omega⟩
   have h := HN1.out
   rw [show m * 3 + 2 + 1 = (m + 1) * 3 by omega] at h
   exact h
  ·have HF : Hid (m = n) := by show m = n; omega
   go_wp2
   go_ret
   have h := HM0.out
   rw [HF.out] at h ⊢
   exact ⟨ret_int (by push_cast; rfl), h⟩
set_option maxHeartbeats 3200000 in
theorem heldKinds_any (b n cap k : Nat) (w : World) (hM : ∀ q, q < n * 3 → w.cell? ⟨b, q, none⟩ = some (mkV 3 patKind k q)) (hn : n ≤ 1048576) (hk : k ≤ 1000000000) :
  Calls Tryz.prog 106 #[.slice (some ⟨b, 0, none⟩) n cap, .int .i64 k] w fun e w' => e = .returned (.int .i64 ((k + n * 3 : Nat) : Int)) ∧ Below w.heap.size w w' := by
 have HM : Hid (∀ q, q < n * 3 → w.cell? ⟨b, q, none⟩ = some (mkV 3 patKind k q)) := hM
 clear hM
 go_enter Tryz.func106, Tryz.ntmps106
 go_wp2
 go_loopw [1, 5] (fun kk i wr => ∃ m : Nat, m ≤ n ∧ i = .int .i64 m ∧ kk = .int .i64 ((k : Int) + (m : Int) * 3) ∧ Below w.heap.size w wr) (fun _ i _ => n - (intOf i).toNat)
 case atStart => exact ⟨0, Nat.zero_le _, rfl, by simp, Below.refl _ _⟩
 case round =>
  obtain ⟨m, hm, rfl, rfl, hbw⟩ := hrel
  by_cases hlt : m < n
  ·have hm0 : (0 : Int) ≤ (m : Int) := by omega
   have hm1 : (m : Int) < (n : Int) := by omega
   have hkm : k + m * 3 + 3 < 10000000000 := by omega
   have room : Hid (∀ j, j < 3 → m * 3 + j < n * 3) := fun j hj => rows_room hlt hj
   have GT0 : Hid (∀ wx : World, Calls Tryz.prog 104 #[.int .i64 ((k : Int) + (m : Int) * 3)] wx fun e w' => e = .returned (.string (mkT (k + m * 3 + 0))) ∧ Below wx.heap.size wx w') := fun wx => by
    have h := markText_any (k + m * 3 + 0) (by omega) wx
    rw [show ((k + m * 3 + 0 : Nat) : Int) = (k : Int) + (m : Int) * 3 by push_cast; omega] at h
    exact h
   have d0 : w.cell? ⟨b, m * 3 + 0, none⟩ = some (.string (mkT (k + m * 3 + 0))) := by rw [HM.out _ (room.out 0 (by omega)), mkV_s (by omega) rfl]
   have d1 : w.cell? ⟨b, m * 3 + 1, none⟩ = some (.int .i64 ((k : Int) + (m : Int) * 3 + 1)) := by
    rw [HM.out _ (room.out 1 (by omega)), mkV_i (by omega) rfl, show ((k + m * 3 + 1 : Nat) : Int) = (k : Int) + (m : Int) * 3 + 1 by push_cast; omega]
   have d2 : w.cell? ⟨b, m * 3 + 2, none⟩ = some (.int .i64 ((k : Int) + (m : Int) * 3 + 1 + 1)) := by
    rw [HM.out _ (room.out 2 (by omega)), mkV_i (by omega) rfl, show ((k + m * 3 + 2 : Nat) : Int) = (k : Int) + (m : Int) * 3 + 1 + 1 by push_cast; omega]
   simp only [Nat.add_zero] at d0
   have HD := toHid (And.intro d0 (And.intro d1 d2))
   have HBW : Hid (Below w.heap.size w wr) := hbw
   clear d0 d1 d2 hbw
   obtain ⟨d0, d1, d2⟩ := HD.out
   have c0 := cell_keep HBW.out (Nat.le_refl _) d0
   have c1 := cell_keep HBW.out (Nat.le_refl _) d1
   have c2 := cell_keep HBW.out (Nat.le_refl _) d2
   clear d0 d1 d2
   have bz : b < wr.heap.size := lt_of_cell c0
   have hne0 := Later.some wr
   have GL0 : Hid (∀ y : Later wr, Calls Tryz.prog 104 #[.int .i64 ((k : Int) + (m : Int) * 3)] y.val fun e w'' => e = .returned (.string (mkT (k + m * 3 + 0))) ∧ ∃ z : Later wr, w'' = z.val) := fun y => Calls.later (GT0.out y.val)
   go_wp2
   refine wp_region_later (by kernel_rfl) (by kernel_rfl) ?_
   repeat (go_big_quiet_step (first | (go_at_call 104; exact GL0.out _)))
   refine wpQuiet_nil ?_
   rintro _ ⟨x0, rfl⟩
   have HBN0 : Hid (Below w.heap.size w x0.val) := below_step HBW.out x0.below
   generalize x0.val = w0 at *
   clear c0 c1 c2 bz HBW GL0 hne0
   have HBW := HBN0
   clear HBN0
   obtain ⟨d0, d1, d2⟩ := HD.out
   have c0 := cell_keep HBW.out (Nat.le_refl _) d0
   have c1 := cell_keep HBW.out (Nat.le_refl _) d1
   have c2 := cell_keep HBW.out (Nat.le_refl _) d2
   clear d0 d1 d2
   have bz : b < w0.heap.size := lt_of_cell c0
   go_wp2
   exact ⟨⟨m + 1, by omega, by go_num, by congr 1; push_cast; omega, HBW.out⟩, by simp [intOf]; omega⟩
  ·have HF : Hid (m = n) := by show m = n; omega
   go_wp2
   go_ret
   rw [HF.out]
   exact ⟨ret_int (by push_cast; rfl), hbw⟩
set_option maxHeartbeats 3200000 in
theorem heldPoints_any (b n cap k : Nat) (w : World) (hM : ∀ q, q < n * 3 → w.cell? ⟨b, q, none⟩ = some (mkV 3 patPoint k q)) (hn : n ≤ 1048576) (hk : k ≤ 1000000000) :
  Calls Tryz.prog 107 #[.slice (some ⟨b, 0, none⟩) n cap, .int .i64 k] w fun e w' => e = .returned (.int .i64 ((k + n * 3 : Nat) : Int)) ∧ Below w.heap.size w w' := by
 have HM : Hid (∀ q, q < n * 3 → w.cell? ⟨b, q, none⟩ = some (mkV 3 patPoint k q)) := hM
 clear hM
 go_enter Tryz.func107, Tryz.ntmps107
 go_wp2
 go_loopw [1, 5] (fun kk i wr => ∃ m : Nat, m ≤ n ∧ i = .int .i64 m ∧ kk = .int .i64 ((k : Int) + (m : Int) * 3) ∧ Below w.heap.size w wr) (fun _ i _ => n - (intOf i).toNat)
 case atStart => exact ⟨0, Nat.zero_le _, rfl, by simp, Below.refl _ _⟩
 case round =>
  obtain ⟨m, hm, rfl, rfl, hbw⟩ := hrel
  by_cases hlt : m < n
  ·have hm0 : (0 : Int) ≤ (m : Int) := by omega
   have hm1 : (m : Int) < (n : Int) := by omega
   have hkm : k + m * 3 + 3 < 10000000000 := by omega
   have room : Hid (∀ j, j < 3 → m * 3 + j < n * 3) := fun j hj => rows_room hlt hj
   have GT0 : Hid (∀ wx : World, Calls Tryz.prog 104 #[.int .i64 ((k : Int) + (m : Int) * 3)] wx fun e w' => e = .returned (.string (mkT (k + m * 3 + 0))) ∧ Below wx.heap.size wx w') := fun wx => by
    have h := markText_any (k + m * 3 + 0) (by omega) wx
    rw [show ((k + m * 3 + 0 : Nat) : Int) = (k : Int) + (m : Int) * 3 by push_cast; omega] at h
    exact h
   have d0 : w.cell? ⟨b, m * 3 + 0, none⟩ = some (.string (mkT (k + m * 3 + 0))) := by rw [HM.out _ (room.out 0 (by omega)), mkV_s (by omega) rfl]
   have d1 : w.cell? ⟨b, m * 3 + 1, none⟩ = some (.int .i64 ((k : Int) + (m : Int) * 3 + 1)) := by
    rw [HM.out _ (room.out 1 (by omega)), mkV_i (by omega) rfl, show ((k + m * 3 + 1 : Nat) : Int) = (k : Int) + (m : Int) * 3 + 1 by push_cast; omega]
   have d2 : w.cell? ⟨b, m * 3 + 2, none⟩ = some (.int .i64 ((k : Int) + (m : Int) * 3 + 1 + 1)) := by
    rw [HM.out _ (room.out 2 (by omega)), mkV_i (by omega) rfl, show ((k + m * 3 + 2 : Nat) : Int) = (k : Int) + (m : Int) * 3 + 1 + 1 by push_cast; omega]
   simp only [Nat.add_zero] at d0
   have HD := toHid (And.intro d0 (And.intro d1 d2))
   have HBW : Hid (Below w.heap.size w wr) := hbw
   clear d0 d1 d2 hbw
   obtain ⟨d0, d1, d2⟩ := HD.out
   have c0 := cell_keep HBW.out (Nat.le_refl _) d0
   have c1 := cell_keep HBW.out (Nat.le_refl _) d1
   have c2 := cell_keep HBW.out (Nat.le_refl _) d2
   clear d0 d1 d2
   have bz : b < wr.heap.size := lt_of_cell c0
   have hne0 := Later.some wr
   have GL0 : Hid (∀ y : Later wr, Calls Tryz.prog 104 #[.int .i64 ((k : Int) + (m : Int) * 3)] y.val fun e w'' => e = .returned (.string (mkT (k + m * 3 + 0))) ∧ ∃ z : Later wr, w'' = z.val) := fun y => Calls.later (GT0.out y.val)
   go_wp2
   refine wp_region_later (by kernel_rfl) (by kernel_rfl) ?_
   repeat (go_big_quiet_step (first | (go_at_call 104; exact GL0.out _)))
   refine wpQuiet_nil ?_
   rintro _ ⟨x0, rfl⟩
   have HBN0 : Hid (Below w.heap.size w x0.val) := below_step HBW.out x0.below
   generalize x0.val = w0 at *
   clear c0 c1 c2 bz HBW GL0 hne0
   have HBW := HBN0
   clear HBN0
   obtain ⟨d0, d1, d2⟩ := HD.out
   have c0 := cell_keep HBW.out (Nat.le_refl _) d0
   have c1 := cell_keep HBW.out (Nat.le_refl _) d1
   have c2 := cell_keep HBW.out (Nat.le_refl _) d2
   clear d0 d1 d2
   have bz : b < w0.heap.size := lt_of_cell c0
   go_wp2
   exact ⟨⟨m + 1, by omega, by go_num, by congr 1; push_cast; omega, HBW.out⟩, by simp [intOf]; omega⟩
  ·have HF : Hid (m = n) := by show m = n; omega
   go_wp2
   go_ret
   rw [HF.out]
   exact ⟨ret_int (by push_cast; rfl), hbw⟩
set_option maxHeartbeats 3200000 in
theorem heldFields_any (b n cap k : Nat) (w : World) (hM : ∀ q, q < n * 3 → w.cell? ⟨b, q, none⟩ = some (mkV 3 patField k q)) (hn : n ≤ 1048576) (hk : k ≤ 1000000000) :
  Calls Tryz.prog 108 #[.slice (some ⟨b, 0, none⟩) n cap, .int .i64 k] w fun e w' => e = .returned (.int .i64 ((k + n * 3 : Nat) : Int)) ∧ Below w.heap.size w w' := by
 have HM : Hid (∀ q, q < n * 3 → w.cell? ⟨b, q, none⟩ = some (mkV 3 patField k q)) := hM
 clear hM
 go_enter Tryz.func108, Tryz.ntmps108
 go_wp2
 go_loopw [1, 5] (fun kk i wr => ∃ m : Nat, m ≤ n ∧ i = .int .i64 m ∧ kk = .int .i64 ((k : Int) + (m : Int) * 3) ∧ Below w.heap.size w wr) (fun _ i _ => n - (intOf i).toNat)
 case atStart => exact ⟨0, Nat.zero_le _, rfl, by simp, Below.refl _ _⟩
 case round =>
  obtain ⟨m, hm, rfl, rfl, hbw⟩ := hrel
  by_cases hlt : m < n
  ·have hm0 : (0 : Int) ≤ (m : Int) := by omega
   have hm1 : (m : Int) < (n : Int) := by omega
   have hkm : k + m * 3 + 3 < 10000000000 := by omega
   have room : Hid (∀ j, j < 3 → m * 3 + j < n * 3) := fun j hj => rows_room hlt hj
   have d0 : w.cell? ⟨b, m * 3 + 0, none⟩ = some (.int .i64 ((k : Int) + (m : Int) * 3)) := by
    rw [HM.out _ (room.out 0 (by omega)), mkV_i (by omega) rfl, show ((k + m * 3 + 0 : Nat) : Int) = (k : Int) + (m : Int) * 3 by push_cast; omega]
   have d1 : w.cell? ⟨b, m * 3 + 1, none⟩ = some (.int .i64 ((k : Int) + (m : Int) * 3 + 1)) := by
    rw [HM.out _ (room.out 1 (by omega)), mkV_i (by omega) rfl, show ((k + m * 3 + 1 : Nat) : Int) = (k : Int) + (m : Int) * 3 + 1 by push_cast; omega]
   have GT2 : Hid (∀ wx : World, Calls Tryz.prog 104 #[.int .i64 ((k : Int) + (m : Int) * 3 + 1 + 1)] wx fun e w' => e = .returned (.string (mkT (k + m * 3 + 2))) ∧ Below wx.heap.size wx w') := fun wx => by
    have h := markText_any (k + m * 3 + 2) (by omega) wx
    rw [show ((k + m * 3 + 2 : Nat) : Int) = (k : Int) + (m : Int) * 3 + 1 + 1 by push_cast; omega] at h
    exact h
   have d2 : w.cell? ⟨b, m * 3 + 2, none⟩ = some (.string (mkT (k + m * 3 + 2))) := by rw [HM.out _ (room.out 2 (by omega)), mkV_s (by omega) rfl]
   simp only [Nat.add_zero] at d0
   have HD := toHid (And.intro d0 (And.intro d1 d2))
   have HBW : Hid (Below w.heap.size w wr) := hbw
   clear d0 d1 d2 hbw
   obtain ⟨d0, d1, d2⟩ := HD.out
   have c0 := cell_keep HBW.out (Nat.le_refl _) d0
   have c1 := cell_keep HBW.out (Nat.le_refl _) d1
   have c2 := cell_keep HBW.out (Nat.le_refl _) d2
   clear d0 d1 d2
   have bz : b < wr.heap.size := lt_of_cell c0
   have hne0 := Later.some wr
   have GL0 : Hid (∀ y : Later wr, Calls Tryz.prog 104 #[.int .i64 ((k : Int) + (m : Int) * 3 + 1 + 1)] y.val fun e w'' => e = .returned (.string (mkT (k + m * 3 + 2))) ∧ ∃ z : Later wr, w'' = z.val) := fun y => Calls.later (GT2.out y.val)
   go_wp2
   refine wp_region_later (by kernel_rfl) (by kernel_rfl) ?_
   repeat (go_big_quiet_step (first | (go_at_call 104; exact GL0.out _)))
   refine wpQuiet_nil ?_
   rintro _ ⟨x0, rfl⟩
   have HBN0 : Hid (Below w.heap.size w x0.val) := below_step HBW.out x0.below
   generalize x0.val = w0 at *
   clear c0 c1 c2 bz HBW GL0 hne0
   have HBW := HBN0
   clear HBN0
   obtain ⟨d0, d1, d2⟩ := HD.out
   have c0 := cell_keep HBW.out (Nat.le_refl _) d0
   have c1 := cell_keep HBW.out (Nat.le_refl _) d1
   have c2 := cell_keep HBW.out (Nat.le_refl _) d2
   clear d0 d1 d2
   have bz : b < w0.heap.size := lt_of_cell c0
   go_wp2
   exact ⟨⟨m + 1, by omega, by go_num, by congr 1; push_cast; omega, HBW.out⟩, by simp [intOf]; omega⟩
  ·have HF : Hid (m = n) := by show m = n; omega
   go_wp2
   go_ret
   rw [HF.out]
   exact ⟨ret_int (by push_cast; rfl), hbw⟩
end Go.Proofs.YtcmgddnckohdaaaGreatDoor
namespace Go.Proofs.YtcmgddnckohdaaaGreatDoor
open Go.RowKit
structure Only (lo hi : Nat) (w w' : World) : Prop where
 below : Below lo w w'
 up : ∀ k, hi ≤ k → k < w.heap.size → w'.heap[k]? = w.heap[k]?
 stays : ∀ B o n, B < w.heap.size → w.there B o n → w'.there B o n
theorem Only.refl (lo hi : Nat) (w : World) : Only lo hi w w := ⟨Below.refl _ _, fun _ _ _ => rfl, fun _ _ _ _ h => h⟩
theorem Only.trans {lo hi : Nat} {w w1 w2 : World} (h : Only lo hi w w1) (k : Only lo hi w1 w2) : Only lo hi w w2 :=
 ⟨h.below.trans k.below, fun j hj hl => (k.up j hj (Nat.lt_of_lt_of_le hl h.below.size)).trans (h.up j hj hl), fun B o n hB ht => k.stays B o n (Nat.lt_of_lt_of_le hB h.below.size) (h.stays B o n hB ht)⟩
theorem Only.call {lo hi : Nat} {w w1 : World} (hb : Below w.heap.size w w1) (hl : lo ≤ w.heap.size) : Only lo hi w w1 :=
 ⟨hb.mono hl, fun j _ hj => hb.block j hj, fun _ _ _ hB ht => there_keep ht hb hB⟩
theorem Only.set {lo hi : Nat} (w : World) {b o : Nat} (v : Value) (hl : lo ≤ b) (hh : b < hi) : Only lo hi w (w.setCell ⟨b, o, none⟩ v) :=
 ⟨(Below.refl _ _).setCell (p := ⟨b, o, none⟩) hl v, fun j hj _ => Below.heap_setCell w ⟨b, o, none⟩ v j (by show j ≠ b; omega), fun _ _ _ _ ht => World.there_setCells ht b o [v]⟩
structure EntsMk (lo hi : Nat) (w : World) (b : Nat) (es : List Ent) : Prop where
 l : lo ≤ b
 h : b < hi
 z : b < w.heap.size
 t : w.there b 0 (es.length * 2)
 f : ∀ (i : Nat) (e : Ent), es[i]? = some e → ∃ fb : Nat, fb ≠ b ∧ lo ≤ fb ∧ fb < hi ∧ fb < w.heap.size ∧ w.cell? ⟨b, i * 2 + 1, none⟩ = some (.slice (some ⟨fb, 0, none⟩) e.fs.length e.fs.length) ∧ w.there fb 0 (e.fs.length * 3)
theorem EntsMk.call {lo hi : Nat} {w w1 : World} {b : Nat} {es : List Ent} (h : EntsMk lo hi w b es) (hb : Below w.heap.size w w1) : EntsMk lo hi w1 b es :=
 ⟨h.l, h.h, Nat.lt_of_lt_of_le h.z hb.size, there_keep h.t hb h.z, fun i e he => by
  obtain ⟨fb, f0, f1, f2, f3, f4, f5⟩ := h.f i e he
  exact ⟨fb, f0, f1, f2, Nat.lt_of_lt_of_le f3 hb.size, cell_keep hb (Nat.le_refl _) f4, there_keep f5 hb f3⟩⟩
theorem EntsMk.set {lo hi : Nat} {w : World} {b : Nat} {es : List Ent} (h : EntsMk lo hi w b es) (m : Nat) (v : Value) : EntsMk lo hi (w.setCell ⟨b, m * 2, none⟩ v) b es :=
 ⟨h.l, h.h, by simpa using h.z, World.there_setCells h.t b (m * 2) [v], fun i e he => by
  obtain ⟨fb, f0, f1, f2, f3, f4, f5⟩ := h.f i e he
  exact ⟨fb, f0, f1, f2, by simpa using f3, (World.cell?_setCell_other w ⟨b, m * 2, none⟩ ⟨b, i * 2 + 1, none⟩ v (by simp <;> omega)).trans f4, World.there_setCells f5 b (m * 2) [v]⟩⟩
theorem there_same {w0 w : World} {B o n : Nat} (h : w0.there B o n) (he : w.heap[B]? = w0.heap[B]?) : w.there B o n := by
 intro q hq
 have := h q hq
 rw [World.cell?_of_block (w := w0) he, World.frozen?_of_block (w := w0) he]
 exact this
theorem EntsMk.of {lo : Nat} {w0 w : World} {ve : Value} {es : List Ent} (h : EntsOwn lo w0 ve es) (hb : ∀ k, lo ≤ k → k < w0.heap.size → w.heap[k]? = w0.heap[k]?) (hs : w0.heap.size ≤ w.heap.size) : ∃ b : Nat, ve = .slice (some ⟨b, 0, none⟩) es.length es.length ∧ EntsMk lo w0.heap.size w b es := by
 obtain ⟨b, rows, hl, hv, hh, _, hr⟩ := h
 refine ⟨b, hv, hl, hh.big, Nat.lt_of_lt_of_le hh.big hs, there_same hh.room (hb b hl hh.big), fun i e he => ?_⟩
 obtain ⟨fb, h0, h1, h2, h3⟩ := hr i e he
 exact ⟨fb, h0, h1, h3.big, Nat.lt_of_lt_of_le h3.big hs, (World.cell?_of_block (w := w0) (hb b hl hh.big)).trans (hh.cell h2 (j := 1) rfl), there_same h3.room (hb fb h1 h3.big)⟩
theorem EntsMk.only {lo hi : Nat} {w w1 : World} {b : Nat} {es : List Ent} (h : EntsMk lo hi w b es) (ho : Only lo hi w w1) (hs : w1.heap[b]? = w.heap[b]?) : EntsMk lo hi w1 b es :=
 ⟨h.l, h.h, Nat.lt_of_lt_of_le h.z ho.below.size, ho.stays _ _ _ h.z h.t, fun i e he => by
  obtain ⟨fb, f0, f1, f2, f3, f4, f5⟩ := h.f i e he
  exact ⟨fb, f0, f1, f2, Nat.lt_of_lt_of_le f3 ho.below.size, (World.cell?_of_block (w := w) hs).trans f4, ho.stays _ _ _ f3 f5⟩⟩
end Go.Proofs.YtcmgddnckohdaaaGreatDoor
