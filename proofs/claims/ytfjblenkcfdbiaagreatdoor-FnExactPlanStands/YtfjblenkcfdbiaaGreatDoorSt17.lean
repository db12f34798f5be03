/-
  Joined: St15, St16, St17.
-/
import Derived.Test.YtfjblenkcfdbiaaGreatDoorSt14
import Derived.Test.YtfjblenkcfdbiaaGreatDoorCel1
set_option linter.unusedSimpArgs false
set_option linter.unusedVariables false

namespace Go.Proofs.YtfjblenkcfdbiaaGreatDoor.Sd
open Go.RowKit Go.Proofs.YtfjblenkcfdbiaaGreatDoor
attribute [local go_sem] Later.cell Later.frozen

theorem eqKind1_any (t : Tri) (w : World) :
    Calls Tryz.prog 35 #[.agg #[.string t.s, .int .i64 t.x, .int .i64 t.y], .agg #[.string t.s, .int .i64 t.x, .int .i64 t.y]] w fun e w' => e = .returned (.bool true) ∧ Below w.heap.size w w' := by
  have h1 : (t.s.toList != t.s.toList) = false := by simp
  have h2 : (t.x != t.x) = false := by simp
  have h3 : (t.y != t.y) = false := by simp
  have HB : Hid (Below w.heap.size w ((w.alloc (.cells #[.string t.s, .int .i64 t.x, .int .i64 t.y] 42)).alloc (.cells #[.string t.s, .int .i64 t.x, .int .i64 t.y] 42))) := ((Below.refl _ _).alloc (Nat.le_refl _) _).alloc (by simp) _
  go_enter Tryz.func35, Tryz.ntmps35
  go_wp2
  go_ret
  exact ⟨rfl, HB.out⟩
set_option maxHeartbeats 1600000 in
theorem eqFlight_any (q : ByteArray) (t : Tri) (x y z : Int) (rt rt' : Value) (l : List ByteArray) (w : World) (h : SArg w rt l) (h' : SArg w rt' l) :
    Calls Tryz.prog 12 #[.agg (flC q t x y z rt), .agg (flC q t x y z rt')] w fun e w' => e = .returned (.bool true) ∧ Below w.heap.size w w' := by
  have HH : Hid (∀ wx : World, Below w.heap.size w wx → SArg wx rt l ∧ SArg wx rt' l) := fun wx hx => ⟨h.keep hx, h'.keep hx⟩
  obtain ⟨a, c, rfl, -, -, -⟩ := h
  obtain ⟨a', c', rfl, -, -, -⟩ := h'
  have h1 : (q.toList != q.toList) = false := by simp
  have h2 : (x != x) = false := by simp
  have h3 : (y != y) = false := by simp
  have h4 : (z != z) = false := by simp
  unfold flC
  have HB : Hid (Below w.heap.size w ((w.alloc (.cells #[.string q, .string t.s, .int .i64 t.x, .int .i64 t.y, .int .i64 x, .int .i64 y, .int .i64 z, .slice a l.length c] 45)).alloc (.cells #[.string q, .string t.s, .int .i64 t.x, .int .i64 t.y, .int .i64 x, .int .i64 y, .int .i64 z, .slice a' l.length c'] 45))) := ((Below.refl _ _).alloc (Nat.le_refl _) _).alloc (by simp) _
  have HQ : Hid (∀ wx : World, Below ((w.alloc (.cells #[.string q, .string t.s, .int .i64 t.x, .int .i64 t.y, .int .i64 x, .int .i64 y, .int .i64 z, .slice a l.length c] 45)).alloc (.cells #[.string q, .string t.s, .int .i64 t.x, .int .i64 t.y, .int .i64 x, .int .i64 y, .int .i64 z, .slice a' l.length c'] 45)).heap.size ((w.alloc (.cells #[.string q, .string t.s, .int .i64 t.x, .int .i64 t.y, .int .i64 x, .int .i64 y, .int .i64 z, .slice a l.length c] 45)).alloc (.cells #[.string q, .string t.s, .int .i64 t.x, .int .i64 t.y, .int .i64 x, .int .i64 y, .int .i64 z, .slice a' l.length c'] 45)) wx → (wx.cell? ⟨w.heap.size, 4, none⟩ = some (.int .i64 x) ∧ wx.cell? ⟨w.heap.size, 5, none⟩ = some (.int .i64 y) ∧ wx.cell? ⟨w.heap.size, 6, none⟩ = some (.int .i64 z) ∧ wx.cell? ⟨w.heap.size, 7, none⟩ = some (.slice a l.length c)) ∧ (wx.cell? ⟨w.heap.size + 1, 4, none⟩ = some (.int .i64 x) ∧ wx.cell? ⟨w.heap.size + 1, 5, none⟩ = some (.int .i64 y) ∧ wx.cell? ⟨w.heap.size + 1, 6, none⟩ = some (.int .i64 z) ∧ wx.cell? ⟨w.heap.size + 1, 7, none⟩ = some (.slice a' l.length c'))) := fun wx hx => ⟨⟨cell_keep hx (Nat.le_refl _) (by simp [go_sem]), cell_keep hx (Nat.le_refl _) (by simp [go_sem]), cell_keep hx (Nat.le_refl _) (by simp [go_sem]), cell_keep hx (Nat.le_refl _) (by simp [go_sem])⟩, cell_keep hx (Nat.le_refl _) (by simp [go_sem]), cell_keep hx (Nat.le_refl _) (by simp [go_sem]), cell_keep hx (Nat.le_refl _) (by simp [go_sem]), cell_keep hx (Nat.le_refl _) (by simp [go_sem])⟩
  go_enter Tryz.func12, Tryz.ntmps12
  go_wp2_with fail
  refine (eqKind1_any t _).mono ?_
  rintro e w1 ⟨rfl, hb1⟩
  obtain ⟨⟨c4, c5, c6, c7⟩, d4, d5, d6, d7⟩ := HQ.out _ hb1
  have HB1 : Hid (Below w.heap.size w w1) := below_step HB.out hb1
  clear hb1 HQ HB
  go_wp2_with fail
  refine (eqStrs_any _ _ l _ (HH.out _ HB1.out).1 (HH.out _ HB1.out).2).mono ?_
  rintro e w2 ⟨rfl, hb2⟩
  have HB2 : Hid (Below w.heap.size w w2) := below_step HB1.out hb2
  go_wp2
  go_ret
  exact ⟨rfl, HB2.out⟩
end Go.Proofs.YtfjblenkcfdbiaaGreatDoor.Sd

namespace Go.Proofs.YtfjblenkcfdbiaaGreatDoor.Sd
open Go.RowKit Go.Proofs.YtfjblenkcfdbiaaGreatDoor
attribute [local go_sem] Later.cell Later.frozen

/-- A row of texts that can be marked. -/
def RooT (w : World) (v : Value) (n : Nat) : Prop := (v = .slice none 0 0 ∧ n = 0) ∨ ∃ b cap, v = .slice (some ⟨b, 0, none⟩) n cap ∧ b < w.heap.size ∧ w.there b 0 n
/-- A row of texts that holds its marks. -/
def RowT (w : World) (v : Value) (n k : Nat) : Prop := (v = .slice none 0 0 ∧ n = 0) ∨ ∃ b cap, v = .slice (some ⟨b, 0, none⟩) n cap ∧ b < w.heap.size ∧ ∀ q, q < n → w.cell? ⟨b, q, none⟩ = some (.string (mkT (k + q)))
theorem RowT.keep {w w' : World} {v : Value} {n k : Nat} (h : RowT w v n k) (hb : Below w.heap.size w w') : RowT w' v n k := by
  rcases h with h | ⟨b, cap, rfl, hl, hc⟩
  · exact .inl h
  · exact .inr ⟨b, cap, rfl, Nat.lt_of_lt_of_le hl hb.size, fun q hq => cell_keep hb (Nat.le_refl _) (hc q hq)⟩
theorem RooT.of {w : World} {B : Nat} {v : Value} {l : List ByteArray} (h : SNew w B v l) : RooT w v l.length := by
  rcases (show w.ownsRow B 9 1 v l.length (l.map Value.string) from h).2 with h2 | ⟨g, cap, cur, rfl, hb, hc, h1, h2, h3, h4⟩
  · exact .inl h2
  · refine .inr ⟨g, cap, rfl, (Array.getElem?_eq_some_iff.1 hc).1, fun q hq => ?_⟩
    have hq' : q < cur.size := by rw [h3]; omega
    simp [World.cell?, World.frozen?, hc, hq']
theorem markStrsNil_any (k : Nat) (w : World) : Calls Tryz.prog 39 #[.slice none 0 0, .int .i64 k] w fun e w' => e = .returned (.int .i64 k) ∧ w' = w := by
  go_enter Tryz.func39, Tryz.ntmps39
  go_wp2
  go_loopw [1, 5] (fun kk i wr => i = .int .i64 0 ∧ kk = .int .i64 k ∧ wr = w) (fun _ _ _ => 0)
  case atStart => exact ⟨rfl, rfl, rfl⟩
  case round =>
    obtain ⟨rfl, rfl, rfl⟩ := hrel
    go_wp2
    go_ret
    exact ⟨rfl, rfl⟩
theorem heldStrsNil_any (k : Nat) (w : World) : Calls Tryz.prog 40 #[.slice none 0 0, .int .i64 k] w fun e w' => e = .returned (.int .i64 k) ∧ w' = w := by
  go_enter Tryz.func40, Tryz.ntmps40
  go_wp2
  go_loopw [1, 5] (fun kk i wr => i = .int .i64 0 ∧ kk = .int .i64 k ∧ wr = w) (fun _ _ _ => 0)
  case atStart => exact ⟨rfl, rfl, rfl⟩
  case round =>
    obtain ⟨rfl, rfl, rfl⟩ := hrel
    go_wp2
    go_ret
    exact ⟨rfl, rfl⟩
set_option maxHeartbeats 1600000 in
theorem markStrsM_any (b n cap k : Nat) (w : World) (hb : b < w.heap.size) (ht : w.there b 0 n) (hn : n ≤ 1048576) (hk : k ≤ 1000000000) :
    Calls Tryz.prog 39 #[.slice (some ⟨b, 0, none⟩) n cap, .int .i64 k] w fun e w' => e = .returned (.int .i64 ((k + n : Nat) : Int)) ∧ MarkAt w w' b n (fun q => .string (mkT (k + q))) n := by
  have HT : Hid (w.there b 0 n) := ht
  clear ht
  go_enter Tryz.func39, Tryz.ntmps39
  go_wp2
  go_loopw [1, 5] (fun kk i wr => ∃ m : Nat, m ≤ n ∧ i = .int .i64 m ∧ kk = .int .i64 ((k : Int) + (m : Int)) ∧ MarkAt w wr b n (fun q => .string (mkT (k + q))) m) (fun _ i _ => n - (intOf i).toNat)
  case atStart => exact ⟨0, Nat.zero_le _, rfl, by simp, MarkAt.start _ HT.out hb⟩
  case round =>
    obtain ⟨m, hm, rfl, rfl, hM⟩ := hrel
    have HM0 : Hid (MarkAt w wr b n (fun q => .string (mkT (k + q))) m) := hM
    clear hM
    by_cases hlt : m < n
    · have hm0 : (0 : Int) ≤ (m : Int) := by omega
      have hm1 : (m : Int) < (n : Int) := by omega
      have GT0 : Hid (∀ wx : World, Calls Tryz.prog 77 #[.int .i64 ((k : Int) + (m : Int))] wx fun e w' => e = .returned (.string (mkT (k + m))) ∧ Below wx.heap.size wx w') := fun wx => by
        have h := markText_any (k + m) (by omega) wx
        rw [show ((k + m : Nat) : Int) = (k : Int) + (m : Int) by push_cast; omega] at h
        exact h
      go_wp2_with fail
      refine (GT0.out _).mono ?_
      rintro e w1 ⟨rfl, hb1⟩
      have HM1 := toHid (HM0.out.call hb1)
      obtain ⟨⟨v0, c0⟩, f0⟩ := HM1.out.free m hlt
      have HN := toHid (HM1.out.set hlt (v := .string (mkT (k + m))) rfl)
      go_wp2
      exact ⟨⟨m + 1, by omega, by go_num, by first | (congr 1; done) | (congr 1; push_cast; omega), HN.out⟩, by simp [intOf]; omega⟩
    · have HF : Hid (m = n) := by show m = n; omega
      go_wp2
      go_ret
      have h := HM0.out
      rw [HF.out] at h ⊢
      exact ⟨ret_int (by push_cast; rfl), h⟩
set_option maxHeartbeats 1600000 in
theorem heldStrs_any (b n cap k : Nat) (w : World) (hM : ∀ q, q < n → w.cell? ⟨b, q, none⟩ = some (.string (mkT (k + q)))) (hn : n ≤ 1048576) (hk : k ≤ 1000000000) :
    Calls Tryz.prog 40 #[.slice (some ⟨b, 0, none⟩) n cap, .int .i64 k] w fun e w' => e = .returned (.int .i64 ((k + n : Nat) : Int)) ∧ Below w.heap.size w w' := by
  have HM : Hid (∀ q, q < n → w.cell? ⟨b, q, none⟩ = some (.string (mkT (k + q)))) := hM
  clear hM
  go_enter Tryz.func40, Tryz.ntmps40
  go_wp2
  go_loopw [1, 5] (fun kk i wr => ∃ m : Nat, m ≤ n ∧ i = .int .i64 m ∧ kk = .int .i64 ((k : Int) + (m : Int)) ∧ Hid (Below w.heap.size w wr)) (fun _ i _ => n - (intOf i).toNat)
  case atStart => exact ⟨0, Nat.zero_le _, rfl, by simp, Below.refl _ _⟩
  case round =>
    obtain ⟨m, hm, rfl, rfl, HB⟩ := hrel
    by_cases hlt : m < n
    · have hm0 : (0 : Int) ≤ (m : Int) := by omega
      have hm1 : (m : Int) < (n : Int) := by omega
      have HC : Hid (∀ wx : World, Below w.heap.size w wx → wx.cell? ⟨b, m, none⟩ = some (.string (mkT (k + m)))) := fun wx hx => cell_keep hx (Nat.le_refl _) (HM.out m hlt)
      have GT0 : Hid (∀ wx : World, Calls Tryz.prog 77 #[.int .i64 ((k : Int) + (m : Int))] wx fun e w' => e = .returned (.string (mkT (k + m))) ∧ Below wx.heap.size wx w') := fun wx => by
        have h := markText_any (k + m) (by omega) wx
        rw [show ((k + m : Nat) : Int) = (k : Int) + (m : Int) by push_cast; omega] at h
        exact h
      generalize mkT (k + m) = t at *
      have ht : (t.toList != t.toList) = false := by simp
      go_wp2
      refine wp_region_noPanic ?_
      refine wp_region_held_drew (S := fun wx => wx.cell? ⟨b, m, none⟩ = some (.string t)) (by kernel_rfl) ?_ (fun hHeld => ?_)
      · exact HC.out _ (HB.out.drew)
      have I4 : Hid (Below w.heap.size w wr.drew) := HB.out.drew
      generalize wr.drew = W at *
      refine wpAnyH_take (i := 0) (v := ?_) rfl (by kernel_rfl) (by kernel_rfl) (by kernel_rfl) (fun _ _ _ h => h) (Or.inl ⟨by rfl, ?_⟩) (by assumption) ?_
      rotate_left
      · intro w hSw; (try dsimp only at hSw); go_simp; try with_reducible rfl
      simp only [Act.put, List.setIfInBounds_toArray, List.set_cons_zero, List.set_cons_succ, List.getElem_toArray, List.getElem_cons_succ, List.getElem_cons_zero]
      refine wpAnyH_take (i := 1) (v := ?_) rfl (by kernel_rfl) (by kernel_rfl) (by kernel_rfl) (fun _ _ _ h => h) (Or.inl ⟨by rfl, ?_⟩) (by assumption) ?_
      rotate_left
      · intro w hSw; (try dsimp only at hSw); go_simp; try with_reducible rfl
      simp only [Act.put, List.setIfInBounds_toArray, List.set_cons_zero, List.set_cons_succ, List.getElem_toArray, List.getElem_cons_succ, List.getElem_cons_zero]
      refine wpAnyH_take (i := 2) (v := ?_) rfl (by kernel_rfl) (by kernel_rfl) (by kernel_rfl) (fun _ _ _ h => h) (Or.inl ⟨by rfl, ?_⟩) (by assumption) ?_
      rotate_left
      · intro w hSw; (try dsimp only at hSw); go_simp; try with_reducible rfl
      simp only [Act.put, List.setIfInBounds_toArray, List.set_cons_zero, List.set_cons_succ, List.getElem_toArray, List.getElem_cons_succ, List.getElem_cons_zero]
      refine wpAnyH_take (i := 3) (v := ?_) rfl (by kernel_rfl) (by kernel_rfl) (by kernel_rfl) (fun _ _ _ h => h) (Or.inl ⟨by rfl, ?_⟩) (by assumption) ?_
      rotate_left
      · intro w hSw; (try dsimp only at hSw); go_simp; try with_reducible rfl
      simp only [Act.put, List.setIfInBounds_toArray, List.set_cons_zero, List.set_cons_succ, List.getElem_toArray, List.getElem_cons_succ, List.getElem_cons_zero]
      refine wpAnyH_take (i := 4) (v := ?_) rfl (by kernel_rfl) (by kernel_rfl) (by kernel_rfl) (fun _ _ _ h => h) (Or.inl ⟨by rfl, ?_⟩) (by assumption) ?_
      rotate_left
      · intro w hSw; (try dsimp only at hSw); go_simp; try with_reducible rfl
      simp only [Act.put, List.setIfInBounds_toArray, List.set_cons_zero, List.set_cons_succ, List.getElem_toArray, List.getElem_cons_succ, List.getElem_cons_zero]
      clear hHeld
      refine wpAnyH_ready (rs := [5]) (by kernel_rfl) (by simp) ?_
      refine AllReadyH.cons rfl (fun K hK => ?_) AllReadyH.nil
      go_simp
      refine (GT0.out _).mono ?_
      rintro e W1 ⟨rfl, hb1⟩
      have I5 : Hid (Below w.heap.size w W1) := below_step I4.out hb1
      have hHeld := HC.out _ I5.out
      refine hK.out _ _ hHeld (fun _ => ?_)
      clear hK K hb1 I4
      refine wpAnyH_take (i := 6) (v := ?_) rfl (by kernel_rfl) (by kernel_rfl) (by kernel_rfl) (fun _ _ _ h => h) (Or.inl ⟨by rfl, ?_⟩) (by assumption) ?_
      rotate_left
      · intro w hSw; (try dsimp only at hSw); go_simp; try with_reducible rfl
      simp only [Act.put, List.setIfInBounds_toArray, List.set_cons_zero, List.set_cons_succ, List.getElem_toArray, List.getElem_cons_succ, List.getElem_cons_zero]
      clear hHeld
      refine wpAnyH_done (by kernel_rfl) ?_ _
      refine NoPanic.normal ?_
      go_wp2
      exact ⟨⟨m + 1, by omega, by go_num, by first | (congr 1; done) | (congr 1; push_cast; omega), I5⟩, by simp [intOf]; omega⟩
    · have HF : Hid (m = n) := by show m = n; omega
      go_wp2
      go_ret
      rw [HF.out]
      exact ⟨ret_int (by push_cast; rfl), HB.out⟩
theorem markStrsG_any (v : Value) (n k : Nat) (w : World) (h : RooT w v n) (hn : n ≤ 1048576) (hk : k ≤ 1000000000) :
    Calls Tryz.prog 39 #[v, .int .i64 k] w fun e w' => e = .returned (.int .i64 ((k + n : Nat) : Int)) ∧ RowT w' v n k ∧ w.grownBy w' v.ownBlock := by
  rcases h with ⟨rfl, rfl⟩ | ⟨b, cap, rfl, hb, ht⟩
  · refine (markStrsNil_any k w).mono ?_
    rintro e w' ⟨rfl, rfl⟩
    exact ⟨by simp, .inl ⟨rfl, rfl⟩, below_grown (Below.refl _ _) _⟩
  · refine (markStrsM_any b n cap k w hb ht hn hk).mono ?_
    rintro e w' ⟨rfl, hM⟩
    exact ⟨rfl, .inr ⟨b, cap, rfl, Nat.lt_of_lt_of_le hb hM.grown.size, fun q hq => hM.has q hq⟩, hM.grown⟩
theorem heldStrsG_any (v : Value) (n k : Nat) (w : World) (h : RowT w v n k) (hn : n ≤ 1048576) (hk : k ≤ 1000000000) :
    Calls Tryz.prog 40 #[v, .int .i64 k] w fun e w' => e = .returned (.int .i64 ((k + n : Nat) : Int)) ∧ Below w.heap.size w w' := by
  rcases h with ⟨rfl, rfl⟩ | ⟨b, cap, rfl, hb, ht⟩
  · refine (heldStrsNil_any k w).mono ?_
    rintro e w' ⟨rfl, rfl⟩
    exact ⟨by simp, Below.refl _ _⟩
  · exact heldStrs_any b n cap k w ht hn hk
theorem RooT.slice {w : World} {v : Value} {n : Nat} (h : RooT w v n) : ∃ a m c, v = .slice a m c := by
  rcases h with ⟨rfl, -⟩ | ⟨b, cap, rfl, -⟩ <;> exact ⟨_, _, _, rfl⟩
theorem RowT.slice {w : World} {v : Value} {n k : Nat} (h : RowT w v n k) : ∃ a m c, v = .slice a m c := by
  rcases h with ⟨rfl, -⟩ | ⟨b, cap, rfl, -⟩ <;> exact ⟨_, _, _, rfl⟩
theorem RooT.keep {w w' : World} {v : Value} {n : Nat} (h : RooT w v n) (hb : Below w.heap.size w w') : RooT w' v n := by
  rcases h with h | ⟨b, cap, rfl, hl, hc⟩
  · exact .inl h
  · exact .inr ⟨b, cap, rfl, Nat.lt_of_lt_of_le hl hb.size, there_keep hc hb hl⟩
theorem grown_call {w w1 w2 : World} {r : Option Nat} (hb : Below w.heap.size w w1) (hg : w1.grownBy w2 r) : w.grownBy w2 r := grown_trans (below_grown hb r) hg
set_option maxHeartbeats 1600000 in
theorem markFlight_any (q : ByteArray) (t : Tri) (x y z : Int) (rt : Value) (n k : Nat) (w : World) (h : RooT w rt n) (hn : n ≤ 1048576) (hk : k ≤ 1000000000) :
    Calls Tryz.prog 14 #[.agg (flC q t x y z rt), .int .i64 k] w fun e w' => e = .returned (.int .i64 ((k + n : Nat) : Int)) ∧ RowT w' rt n k ∧ w.grownBy w' rt.ownBlock := by
  have HH : Hid (RooT w rt n) := h
  obtain ⟨a, m, c, rfl⟩ := h.slice
  unfold flC
  have HB : Hid (Below w.heap.size w (w.alloc (.cells #[.string q, .string t.s, .int .i64 t.x, .int .i64 t.y, .int .i64 x, .int .i64 y, .int .i64 z, .slice a m c] 45))) := (Below.refl _ _).alloc (Nat.le_refl _) _
  clear h
  go_enter Tryz.func14, Tryz.ntmps14
  go_wp2_with fail
  refine (markStrsG_any _ n k _ (HH.out.keep HB.out) hn hk).mono ?_
  rintro e w1 ⟨rfl, hR, hg⟩
  have HG : Hid (RowT w1 (.slice a m c) n k ∧ w.grownBy w1 (Value.slice a m c).ownBlock) := ⟨hR, grown_call HB.out hg⟩
  clear hR hg
  go_wp2
  go_ret
  exact ⟨rfl, HG.out⟩
set_option maxHeartbeats 1600000 in
theorem heldFlight_any (q : ByteArray) (t : Tri) (x y z : Int) (rt : Value) (n k : Nat) (w : World) (h : RowT w rt n k) (hn : n ≤ 1048576) (hk : k ≤ 1000000000) :
    Calls Tryz.prog 15 #[.agg (flC q t x y z rt), .int .i64 k] w fun e w' => e = .returned (.int .i64 ((k + n : Nat) : Int)) ∧ Below w.heap.size w w' := by
  have HH : Hid (RowT w rt n k) := h
  obtain ⟨a, m, c, rfl⟩ := h.slice
  unfold flC
  have HB : Hid (Below w.heap.size w (w.alloc (.cells #[.string q, .string t.s, .int .i64 t.x, .int .i64 t.y, .int .i64 x, .int .i64 y, .int .i64 z, .slice a m c] 45))) := (Below.refl _ _).alloc (Nat.le_refl _) _
  have hkn : ¬ ((k + n : Nat) : Int) < 0 := by omega
  clear h
  go_enter Tryz.func15, Tryz.ntmps15
  go_wp2_with fail
  refine (heldStrsG_any _ n k _ (HH.out.keep HB.out) hn hk).mono ?_
  rintro e w1 ⟨rfl, hb⟩
  have HG : Hid (Below w.heap.size w w1) := below_step HB.out hb
  clear hb
  have HR : Hid (((k + n : Nat) : Int) = ((k + n : Nat) : Int)) := rfl
  obtain ⟨r, hr⟩ : ∃ r, ((k + n : Nat) : Int) = r := ⟨_, rfl⟩
  rw [hr] at hkn ⊢
  have HRR : Hid (((k + n : Nat) : Int) = r) := hr
  clear hr
  go_wp2
  go_ret
  exact ⟨ret_int HRR.out.symm, HG.out⟩
end Go.Proofs.YtfjblenkcfdbiaaGreatDoor.Sd

namespace Go.Proofs.YtfjblenkcfdbiaaGreatDoor.Sd
open Go.RowKit Go.Proofs.YtfjblenkcfdbiaaGreatDoor

theorem SNew.nil {w : World} {B : Nat} (h : B ≤ w.heap.size) : SNew w B (.slice none 0 0) [] := by
  unfold SNew
  exact ⟨rfl, .inl ⟨rfl, rfl⟩⟩
theorem SNew.arg {w : World} {B : Nat} {v : Value} {l : List ByteArray} (h : SNew w B v l) : SArg w v l := by
  by_cases h0 : l = []
  · subst h0
    rcases (show w.ownsRow B 9 1 v 0 [] from h).2 with ⟨rfl, -⟩ | ⟨g, cap, cur, rfl, hb, hc, h1, h2, h3, h4⟩
    · exact ⟨none, 0, rfl, Nat.le_refl _, Nat.zero_le _, fun i x hx => by simp at hx⟩
    · exact ⟨_, cap, rfl, Nat.zero_le _, h2, fun i x hx => by simp at hx⟩
  · exact (strs_of_own (ws := l) h h0).arg
/-- What both sides answer has one shape; the route's list is known. -/
theorem stand_shape (ks ps : List Tri) (es : List Ent) (nm : ByteArray) : ∃ (q : ByteArray) (t : Tri) (x y z : Int) (L : List ByteArray), L.length ≤ 1048576 ∧ ∀ (w' : World) (B : Nat) (rt : Value), B ≤ w'.heap.size → (∀ e, standR ks ps es nm = some e → RtIs w' B rt (lastV e.fs 4)) → ∃ rv, standC ks (standR ks ps es nm) rt = flC q t x y z rv ∧ SNew w' B rv L := by
  cases hR : standR ks ps es nm with
  | none => exact ⟨⟨#[]⟩, ⟨⟨#[]⟩, 0, 0⟩, 0, 0, 0, [], by simp, fun w' B rt hB _ => ⟨.slice none 0 0, rfl, SNew.nil hB⟩⟩
  | some e =>
    have hb : bookB ks ps es = true := by
      unfold standR at hR
      cases h : bookB ks ps es with
      | true => rfl
      | false => rw [h] at hR; cases hR
    have he : e ∈ es := by
      unfold standR at hR
      rw [hb] at hR
      simp only [cond_true] at hR
      cases h : es.find? (fun e => decide (e.name = nm)) with
      | none => rw [h] at hR; cases hR
      | some e' =>
        rw [h] at hR
        dsimp only at hR
        cases hs : stB e'.fs with
        | false => rw [hs] at hR; cases hR
        | true =>
          rw [hs] at hR
          injection hR with hR
          subst hR
          exact List.mem_of_find?_eq_some h
    cases h4 : lastV e.fs 4 with
    | none => exact ⟨e.name, kdOf ks (lastV e.fs 1), frOf (lastV e.fs 2), byOf (lastV e.fs 2), lvOf (lastV e.fs 3), [], by simp, fun w' B rt hB h => ⟨rt, rfl, by
        have h1 := h e rfl
        rw [h4] at h1
        have h2 : rt = .slice none 0 0 := h1
        rw [h2]
        exact SNew.nil hB⟩⟩
    | some f =>
      have hf : f ∈ e.fs ∧ f.what = 4 := by
        have := last_find (x := 4) e.fs (asc_wlt (book_ascF hb e he))
        rw [h4] at this
        exact fnd_mem this.symm
      have hv := book_fits hb e he f hf.1
      rw [hf.2] at hv
      have hr : routeB ps (cutW f.v) = true := by simpa [valB2] using hv
      unfold routeB at hr
      rw [Bool.and_eq_true] at hr
      have hl : (cutW f.v).length ≤ 1048576 := by
        have := hr.1
        simp [inB] at this
        omega
      exact ⟨e.name, kdOf ks (lastV e.fs 1), frOf (lastV e.fs 2), byOf (lastV e.fs 2), lvOf (lastV e.fs 3), cutW f.v, hl, fun w' B rt hB h => ⟨rt, rfl, by
        have h1 := h e rfl
        rw [h4] at h1
        exact h1⟩⟩
end Go.Proofs.YtfjblenkcfdbiaaGreatDoor.Sd
