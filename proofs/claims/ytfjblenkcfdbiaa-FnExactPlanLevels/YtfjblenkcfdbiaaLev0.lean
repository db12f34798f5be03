
/-
  Numbers in a row of one's own: held against each other, marked.
-/
import Derived.Test.YtfjblenkcfdbiaaLev00
import Derived.Deep.MidRow
namespace Go.Proofs.Ytfjblenkcfdbiaa.Lv
open Go.RowKit
attribute [local go_sem] Later.cell Later.frozen
set_option linter.unusedSimpArgs false
set_option linter.unusedVariables false

set_option maxHeartbeats 1600000 in
theorem eqInts_any (v v' : Value) (l : List Int) (w : World) (hv : IAt w v l) (hv' : IAt w v' l) :
    Calls Try.prog 34 #[v, v'] w fun e w' => e = .returned (.bool true) ∧ Below w.heap.size w w' := by
  obtain ⟨a, cap, rfl, hlc, hcm, hc⟩ := hv
  obtain ⟨a', cap', rfl, hlc', hcm', hc'⟩ := hv'
  unfold maxLen at hcm hcm'
  have HC : Hid (∀ i t, l[i]? = some t → ∃ g, a = some ⟨g, 0, none⟩ ∧ w.cell? ⟨g, i, none⟩ = some (.int .i64 t)) := hc
  have HC' : Hid (∀ i t, l[i]? = some t → ∃ g, a' = some ⟨g, 0, none⟩ ∧ w.cell? ⟨g, i, none⟩ = some (.int .i64 t)) := hc'
  clear hc hc'
  go_enter Try.func34, Try.ntmps34
  go_wp2
  go_loopw [5] (fun i w' => ∃ k : Nat, k ≤ l.length ∧ i = .int .i64 k ∧ Hid (Below w.heap.size w w')) (fun i _ => l.length - (intOf i).toNat)
  case atStart => exact ⟨0, Nat.zero_le _, rfl, Below.refl _ _⟩
  case round =>
    obtain ⟨k, hk, rfl, HB⟩ := hrel
    by_cases hlt : k < l.length
    · obtain ⟨b, rfl, d0⟩ := HC.out k _ (nat_get hlt)
      obtain ⟨b', rfl, d0'⟩ := HC'.out k _ (nat_get hlt)
      have c0 := cell_keep HB.out (Nat.le_refl _) d0
      have c1 := cell_keep HB.out (Nat.le_refl _) d0'
      have z0 := lt_of_cell c0
      have z1 := lt_of_cell c1
      have hk0 : (0 : Int) ≤ (k : Int) := by omega
      have hk1 : (k : Int) < (l.length : Int) := by omega
      clear d0 d0'
      generalize l.getD k 0 = t at *
      have ht : (t != t) = false := by simp
      have hne := Later.some wr
      go_wp2
      refine wp_region_later (by kernel_rfl) (by kernel_rfl) ?_
      repeat (go_big_quiet_step (fail))
      refine wpQuiet_nil ?_
      rintro _ ⟨x, rfl⟩
      have HB2 : Hid (Below w.heap.size w x.val) := below_step HB.out x.below
      go_wp2
      exact ⟨⟨k + 1, by omega, by go_num, HB2⟩, by simp [intOf]; omega⟩
    · go_wp2
      go_ret
      exact ⟨rfl, HB.out⟩

/-- The first p cells of block b hold their marks; no other block that was there has turned. -/
structure MarkAt (w wr : World) (b N : Nat) (f : Nat → Value) (p : Nat) : Prop where
  grown : w.grownBy wr (some b)
  big : b < w.heap.size
  room : wr.there b 0 N
  has : ∀ q, q < p → wr.cell? ⟨b, q, none⟩ = some (f q)
theorem below_grown {w w' : World} (h : Below w.heap.size w w') (r : Option Nat) : w.grownBy w' r := ⟨h.1, h.2, h.3, h.4, fun k hk _ => h.5 k hk⟩
theorem grown_trans {w w1 w2 : World} {r : Option Nat} (h : w.grownBy w1 r) (k : w1.grownBy w2 r) : w.grownBy w2 r :=
  ⟨k.1.trans h.1, k.2.trans h.2, k.3.trans h.3, Nat.le_trans h.4 k.4, fun j hj hr => (k.5 j (Nat.lt_of_lt_of_le hj h.4) hr).trans (h.5 j hj hr)⟩
theorem grown_set (w : World) (b o : Nat) (v : Value) : w.grownBy (w.setCell ⟨b, o, none⟩ v) (some b) :=
  ⟨rfl, rfl, rfl, by simp, fun j _ hr => Below.heap_setCell w ⟨b, o, none⟩ v j (fun e => hr (by rw [e]))⟩
theorem MarkAt.start {w : World} {b N : Nat} (f : Nat → Value) (h : w.there b 0 N) (hb : b < w.heap.size) : MarkAt w w b N f 0 :=
  ⟨below_grown (Below.refl _ _) _, hb, h, fun _ hq => absurd hq (Nat.not_lt_zero _)⟩
theorem MarkAt.free {w wr : World} {b N : Nat} {f : Nat → Value} {p : Nat} (h : MarkAt w wr b N f p) (q : Nat) (hq : q < N) : (∃ v, wr.cell? ⟨b, q, none⟩ = some v) ∧ wr.frozen? ⟨b, q, none⟩ = false := by
  have := h.room q hq
  simpa [Option.isSome_iff_exists] using this
theorem MarkAt.set {w wr : World} {b N : Nat} {f : Nat → Value} {p : Nat} (h : MarkAt w wr b N f p) (hp : p < N) {v : Value} (hv : f p = v) : MarkAt w (wr.setCell ⟨b, p, none⟩ v) b N f (p + 1) := by
  refine ⟨grown_trans h.grown (grown_set wr b p v), h.big, World.there_setCells h.room b p [v], fun q hq => ?_⟩
  by_cases e : q = p
  · subst e
    obtain ⟨⟨u, hu⟩, _⟩ := h.free q hp
    rw [World.cell?_setCell_same wr ⟨b, q, none⟩ v hu, hv]
  · rw [World.cell?_setCell_other wr ⟨b, p, none⟩ ⟨b, q, none⟩ v (by simp <;> omega)]
    exact h.has q (by omega)
def mkI (k q : Nat) : Value := .int .i64 ((k + q : Nat) : Int)
/-- A row that holds its marks. -/
def RowM (w : World) (v : Value) (n : Nat) (f : Nat → Value) : Prop := (v = .slice none 0 0 ∧ n = 0) ∨ ∃ b cap, v = .slice (some ⟨b, 0, none⟩) n cap ∧ b < w.heap.size ∧ ∀ q, q < n → w.cell? ⟨b, q, none⟩ = some (f q)
theorem RowM.keep {w w' : World} {v : Value} {n : Nat} {f : Nat → Value} (h : RowM w v n f) (hb : Below w.heap.size w w') : RowM w' v n f := by
  rcases h with h | ⟨b, cap, rfl, hl, ht⟩
  · exact .inl h
  · exact .inr ⟨b, cap, rfl, Nat.lt_of_lt_of_le hl hb.size, fun q hq => cell_keep hb (Nat.le_refl _) (ht q hq)⟩
set_option maxHeartbeats 1600000 in
theorem markIntNil_any (k : Nat) (w : World) : Calls Try.prog 35 #[.slice none 0 0, .int .i64 k] w fun e w' => e = .returned (.int .i64 k) ∧ w' = w := by
  go_enter Try.func35, Try.ntmps35
  go_wp2
  go_loopw [1, 5] (fun kk i wr => i = .int .i64 0 ∧ kk = .int .i64 k ∧ wr = w) (fun _ _ _ => 0)
  case atStart => exact ⟨rfl, rfl, rfl⟩
  case round =>
    obtain ⟨rfl, rfl, rfl⟩ := hrel
    go_wp2
    go_ret
    exact ⟨rfl, rfl⟩
theorem heldIntNil_any (k : Nat) (w : World) : Calls Try.prog 36 #[.slice none 0 0, .int .i64 k] w fun e w' => e = .returned (.int .i64 k) ∧ w' = w := by
  go_enter Try.func36, Try.ntmps36
  go_wp2
  go_loopw [1, 5] (fun kk i wr => i = .int .i64 0 ∧ kk = .int .i64 k ∧ wr = w) (fun _ _ _ => 0)
  case atStart => exact ⟨rfl, rfl, rfl⟩
  case round =>
    obtain ⟨rfl, rfl, rfl⟩ := hrel
    go_wp2
    go_ret
    exact ⟨rfl, rfl⟩
set_option maxHeartbeats 1600000 in
theorem markInts_any (b n cap k : Nat) (w : World) (hb : b < w.heap.size) (ht : w.there b 0 n) (hn : n ≤ 1048576) (hk : k ≤ 1000000000) :
    Calls Try.prog 35 #[.slice (some ⟨b, 0, none⟩) n cap, .int .i64 k] w fun e w' => e = .returned (.int .i64 ((k + n : Nat) : Int)) ∧ MarkAt w w' b n (mkI k) n := by
  have HT : Hid (w.there b 0 n) := ht
  clear ht
  go_enter Try.func35, Try.ntmps35
  go_wp2
  go_loopw [1, 5] (fun kk i wr => ∃ m : Nat, m ≤ n ∧ i = .int .i64 m ∧ kk = .int .i64 ((k : Int) + (m : Int)) ∧ MarkAt w wr b n (mkI k) m) (fun _ i _ => n - (intOf i).toNat)
  case atStart => exact ⟨0, Nat.zero_le _, rfl, by simp, MarkAt.start _ HT.out hb⟩
  case round =>
    obtain ⟨m, hm, rfl, rfl, hM⟩ := hrel
    have HM0 : Hid (MarkAt w wr b n (mkI k) m) := hM
    clear hM
    by_cases hlt : m < n
    · have hm0 : (0 : Int) ≤ (m : Int) := by omega
      have hm1 : (m : Int) < (n : Int) := by omega
      have e0 : Hid (mkI k m = .int .i64 ((k : Int) + (m : Int))) := by
        show _ = _
        unfold mkI
        rw [show ((k + m : Nat) : Int) = (k : Int) + (m : Int) by push_cast; omega]
      obtain ⟨⟨v0, c0⟩, f0⟩ := HM0.out.free m hlt
      have HN := toHid (HM0.out.set hlt e0.out)
      go_wp2
      exact ⟨⟨m + 1, by omega, by go_num, by first | (congr 1; done) | (congr 1; push_cast; omega), HN.out⟩, by simp [intOf]; omega⟩
    · have HF : Hid (m = n) := by show m = n; omega
      go_wp2
      go_ret
      have h := HM0.out
      rw [HF.out] at h ⊢
      exact ⟨ret_int (by push_cast; rfl), h⟩
set_option maxHeartbeats 1600000 in
theorem heldInts_any (b n cap k : Nat) (w : World) (hM : ∀ q, q < n → w.cell? ⟨b, q, none⟩ = some (mkI k q)) (hn : n ≤ 1048576) (hk : k ≤ 1000000000) :
    Calls Try.prog 36 #[.slice (some ⟨b, 0, none⟩) n cap, .int .i64 k] w fun e w' => e = .returned (.int .i64 ((k + n : Nat) : Int)) ∧ Below w.heap.size w w' := by
  have HM : Hid (∀ q, q < n → w.cell? ⟨b, q, none⟩ = some (mkI k q)) := hM
  clear hM
  go_enter Try.func36, Try.ntmps36
  go_wp2
  go_loopw [1, 5] (fun kk i wr => ∃ m : Nat, m ≤ n ∧ i = .int .i64 m ∧ kk = .int .i64 ((k : Int) + (m : Int)) ∧ Below w.heap.size w wr) (fun _ i _ => n - (intOf i).toNat)
  case atStart => exact ⟨0, Nat.zero_le _, rfl, by simp, Below.refl _ _⟩
  case round =>
    obtain ⟨m, hm, rfl, rfl, hb⟩ := hrel
    by_cases hlt : m < n
    · have hm0 : (0 : Int) ≤ (m : Int) := by omega
      have hm1 : (m : Int) < (n : Int) := by omega
      have c0 : wr.cell? ⟨b, m, none⟩ = some (.int .i64 ((k : Int) + (m : Int))) := by
        have h := cell_keep hb (Nat.le_refl _) (HM.out m hlt)
        unfold mkI at h
        rw [show ((k + m : Nat) : Int) = (k : Int) + (m : Int) by push_cast; omega] at h
        exact h
      have ht : (((k : Int) + (m : Int)) != ((k : Int) + (m : Int))) = false := by simp
      have HB : Hid (Below w.heap.size w wr) := hb
      clear hb
      go_wp2
      exact ⟨⟨m + 1, by omega, by go_num, by first | (congr 1; done) | (congr 1; push_cast; omega), HB.out⟩, by simp [intOf]; omega⟩
    · have HF : Hid (m = n) := by show m = n; omega
      go_wp2
      go_ret
      rw [HF.out]
      exact ⟨ret_int (by push_cast; rfl), hb⟩
theorem markIntG_any (v : Value) (l : List Int) (B k : Nat) (w : World) (h : INew w B v l) (hn : l.length ≤ 1048576) (hk : k ≤ 1000000000) :
    Calls Try.prog 35 #[v, .int .i64 k] w fun e w' => e = .returned (.int .i64 ((k + l.length : Nat) : Int)) ∧ RowM w' v l.length (mkI k) ∧ w.grownBy w' v.ownBlock := by
  rcases h.2 with ⟨rfl, h0⟩ | ⟨b, cap, cur, rfl, hb, hc, h1, h2, h3, h4⟩
  · refine (markIntNil_any k w).mono ?_
    rintro e w' ⟨rfl, rfl⟩
    exact ⟨by rw [h0]; simp, .inl ⟨rfl, h0⟩, below_grown (Below.refl _ _) _⟩
  · have hbl : b < w.heap.size := (Array.getElem?_eq_some_iff.1 hc).1
    refine (markInts_any b l.length cap k w hbl (fun q hq => ?_) hn hk).mono ?_
    · have hq' : q < cur.size := by rw [h3]; omega
      simp [World.cell?, World.frozen?, hc, hq']
    · rintro e w' ⟨rfl, hM⟩
      exact ⟨rfl, .inr ⟨b, cap, rfl, Nat.lt_of_lt_of_le hbl hM.grown.size, fun q hq => hM.has q (by omega)⟩, hM.grown⟩
theorem heldIntG_any (v : Value) (n k : Nat) (w : World) (h : RowM w v n (mkI k)) (hn : n ≤ 1048576) (hk : k ≤ 1000000000) :
    Calls Try.prog 36 #[v, .int .i64 k] w fun e w' => e = .returned (.int .i64 ((k + n : Nat) : Int)) ∧ Below w.heap.size w w' := by
  rcases h with ⟨rfl, rfl⟩ | ⟨b, cap, rfl, hb, ht⟩
  · refine (heldIntNil_any k w).mono ?_
    rintro e w' ⟨rfl, rfl⟩
    exact ⟨by simp, Below.refl _ _⟩
  · exact heldInts_any b n cap k w (fun q hq => ht q (by omega)) hn hk
end Go.Proofs.Ytfjblenkcfdbiaa.Lv
