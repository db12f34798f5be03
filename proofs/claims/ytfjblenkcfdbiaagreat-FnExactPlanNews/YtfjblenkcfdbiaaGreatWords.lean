
/-
  A text cut at each space, by its runes: impl's wordsOf gives the same pieces as the cut by bytes.
-/
import Derived.Test.YtfjblenkcfdbiaaGreatCut
namespace Go.Proofs.YtfjblenkcfdbiaaGreat
open Go.RowKit

/-- The pieces of a text. -/
def cutW (s : ByteArray) : List ByteArray := (cutA [] (bytes s)).map fun l => ⟨⟨l⟩⟩
theorem cutW_eq {s : ByteArray} {ws : List ByteArray} (h : ws.map bytes = cutA [] (bytes s)) : ws = cutW s := by
  unfold cutW
  rw [← h, List.map_map]
  have : ((fun l => (⟨⟨l⟩⟩ : ByteArray)) ∘ bytes) = id := by funext x; rfl
  rw [this, List.map_id]
theorem get!_eq (s : ByteArray) (k : Nat) (h : k < s.size) : s.get! k = s[k] := get_at s k h

theorem decode_skip (s : ByteArray) (pos : Nat) (h : pos < s.size) (ha : 128 ≤ (s[pos]'h).toNat) :
    pos + (Utf8.decode s pos).2 ≤ s.size ∧ ∀ j (hj : j < s.size), pos ≤ j → j < pos + (Utf8.decode s pos).2 → 128 ≤ (s[j]'hj).toNat := by
  have hn : ¬ (s[pos]'h).toNat < 128 := by omega
  have one : ∀ j (hj : j < s.size), pos ≤ j → j < pos + 1 → 128 ≤ (s[j]'hj).toNat := fun j hj h1 h2 => by
    have : j = pos := by omega
    subst this; exact ha
  have more : ∀ k, pos + k < s.size → (s.get! (pos + k)).toNat / 64 = 2 → ∀ (hj : pos + k < s.size), 128 ≤ (s[pos + k]'hj).toNat := fun k hk hq hj => by
    rw [get!_eq s _ hj] at hq; omega
  simp only [Utf8.decode, get_at s pos h, hn, if_false]
  split
  · next hc =>
    simp only [Bool.and_eq_true, decide_eq_true_eq, beq_iff_eq] at hc
    obtain ⟨_, h1, q1⟩ := hc
    split
    · refine ⟨by show pos + 2 ≤ _; omega, fun j hj a b => ?_⟩
      have b' : j < pos + 2 := b
      by_cases e : j = pos
      · exact one j hj a (by omega)
      · obtain rfl : j = pos + 1 := by omega
        exact more 1 h1 q1 hj
    · exact ⟨by show pos + 1 ≤ _; omega, fun j hj a b => one j hj a b⟩
  · split
    · next hc =>
      simp only [Bool.and_eq_true, decide_eq_true_eq, beq_iff_eq] at hc
      obtain ⟨⟨_, h1, q1⟩, h2, q2⟩ := hc
      split
      · refine ⟨by show pos + 3 ≤ _; omega, fun j hj a b => ?_⟩
        have b' : j < pos + 3 := b
        by_cases e : j = pos
        · exact one j hj a (by omega)
        · by_cases e2 : j = pos + 1
          · subst e2; exact more 1 h1 q1 hj
          · obtain rfl : j = pos + 2 := by omega
            exact more 2 h2 q2 hj
      · exact ⟨by show pos + 1 ≤ _; omega, fun j hj a b => one j hj a b⟩
    · split
      · next hc =>
        simp only [Bool.and_eq_true, decide_eq_true_eq, beq_iff_eq] at hc
        obtain ⟨⟨⟨_, h1, q1⟩, h2, q2⟩, h3, q3⟩ := hc
        split
        · refine ⟨by show pos + 4 ≤ _; omega, fun j hj a b => ?_⟩
          have b' : j < pos + 4 := b
          by_cases e : j = pos
          · exact one j hj a (by omega)
          · by_cases e2 : j = pos + 1
            · subst e2; exact more 1 h1 q1 hj
            · by_cases e3 : j = pos + 2
              · subst e3; exact more 2 h2 q2 hj
              · obtain rfl : j = pos + 3 := by omega
                exact more 3 h3 q3 hj
        · exact ⟨by show pos + 1 ≤ _; omega, fun j hj a b => one j hj a b⟩
      · exact ⟨by show pos + 1 ≤ _; omega, fun j hj a b => one j hj a b⟩

theorem CutInv.skip {s : ByteArray} {fr k : Nat} {P : List ByteArray} (h : CutInv s fr k P) (ha : fr ≤ k) : ∀ n, k + n ≤ s.size → (∀ j (hj : j < s.size), k ≤ j → j < k + n → ¬ s[j] = 32) → CutInv s fr (k + n) P
  | 0, _, _ => h
  | n + 1, hk, hc => (CutInv.skip h ha n (by omega) (fun j hj a b => hc j hj a (by omega))).other (by omega) (by omega : k + n < s.size) (hc _ _ (by omega) (by omega))

theorem not_space {c : UInt8} (h : 128 ≤ c.toNat) : ¬ c = 32 := fun e => by rw [e] at h; simp at h

set_option maxHeartbeats 1600000 in
theorem wordsOf_any (s : ByteArray) (w : World) (hs : s.size ≤ 1048576) :
    Calls Tryz.prog 168 #[.string s] w fun e w' => ∃ v, e = .returned v ∧ StrsAt w' v (cutW s) ∧ Below w.heap.size w w' := by
  obtain ⟨i0, hi, hz0, hz1, hz2⟩ := info_parts infoStr
  go_enter Tryz.func168, Tryz.ntmps168
  go_wp2
  go_loopw [3, 4, 5, 6] (fun o f _ _ wr => ∃ (k fr : Nat) (P : List ByteArray), fr ≤ k ∧ k ≤ s.size ∧ f = .int .i64 fr ∧ P.length ≤ k ∧ wr.ownsRow (w.heap.size + 1) 9 1 o P.length (P.map Value.string) ∧ wr.heap[w.heap.size]? = some (.stringIter s k) ∧ Below w.heap.size w wr ∧ Hid (CutInv s fr k P)) (fun _ _ _ _ wr => s.size - wr.iterPos w.heap.size)
  case atStart => exact ⟨0, 0, [], Nat.le_refl _, Nat.zero_le _, rfl, Nat.le_refl _, ⟨rfl, .inl ⟨rfl, rfl⟩⟩, World.iter_heap w s 0, (Below.refl _ _).alloc (Nat.le_refl _) _, CutInv.start s⟩
  case round =>
    obtain ⟨k, fr, P, hfk, hk, rfl, hpl, hown, hit, hb, HI⟩ := hrel
    have hsz : w.heap.size < wr.heap.size := (Array.getElem?_eq_some_iff.1 hit).1
    by_cases hlt : k < s.size
    · by_cases ha : s[k].toNat < 128
      · have hnx : ∀ ty, (Instr.next (.pointer (some ⟨w.heap.size, 0, none⟩)) true ty).run Tryz.prog wr = _ := fun ty => Lib.run_next_ascii_at wr w.heap.size s k ty hit hlt ha
        have hit2 := Lib.iterAt_heap wr w.heap.size s k (k + 1) hit
        have hb2 := Lib.below_iterAt hb (k := w.heap.size) (Nat.le_refl _) s (k + 1)
        have hown2 := ownsRow_iterAt hown (k := w.heap.size) (Nat.lt_succ_self _) s (k + 1)
        have HP : Hid (wr.iterPos w.heap.size = k) := iterPos_of hit
        by_cases hc : s[k] = 32
        · have h1 : (((s[k].toNat : Nat) : Int) == 32) = true := by rw [u8_space]; simpa using hc
          have HC : Hid (s[k] = 32) := hc
          clear hc
          generalize hW : wr.iterAt w.heap.size s (k + 1) = W at hnx hit2 hb2 hown2
          have hszW : w.heap.size < W.heap.size := (Array.getElem?_eq_some_iff.1 hit2).1
          clear hW
          go_wp2_with (at_builtin; refine wpList_append_own _ rfl _ _ 130 rfl (w.heap.size + 1) 9 i0 (.string ByteArray.empty) 1 16 Tryz.underlying130 hi hz0 hz1 hz2 rfl (by decide) _ _ _ rfl (hown2.alloc _) ⟨W.heap.size, 0, none⟩ 1 1 [.string (s.extract fr k)] rfl rfl (cell_one_new _ _ _) (fun x hx => by simp at hx; subst hx; rfl) (by unfold maxLen; omega) (by omega) (by have := hb.size; simp; omega) ?_; intro v' w3 hown' hgrow3 hnil3)
          have hit3 : w3.heap[w.heap.size]? = some (.stringIter s (k + 1)) := (hgrow3.block w.heap.size (by simp; omega) (fun hj => by have := own_ge hown2 _ hj.symm; omega)).trans ((Below.heap_alloc _ _ _ hszW).trans hit2)
          refine ⟨⟨k + 1, k + 1, P ++ [s.extract fr k], Nat.le_refl _, by omega, by go_num, by simp; omega, by simpa using hown', hit3, (hb2.alloc hb2.size _).grown hgrow3 (by have := hb2.size; simp; omega) (fun j hj => by have := own_ge hown2 _ hj; omega), HI.out.space hlt HC.out⟩, ?_⟩
          rw [iterPos_of hit3, HP.out]; omega
        · have h1 : (((s[k].toNat : Nat) : Int) == 32) = false := by rw [u8_space]; simpa using hc
          have HC : Hid (¬ s[k] = 32) := hc
          clear hc
          go_wp2
          refine ⟨⟨k + 1, fr, P, by omega, by omega, rfl, by omega, hown2, hit2, hb2, HI.out.other hfk hlt HC.out⟩, ?_⟩
          rw [iterPos_of hit2, HP.out]; omega
      · have hnx : ∀ ty, (Instr.next (.pointer (some ⟨w.heap.size, 0, none⟩)) true ty).run Tryz.prog wr = _ := fun ty => Lib.run_next_any_at wr w.heap.size s k ty hit hlt
        have hd := decode_high s k hlt (by omega)
        have HS : Hid (k + (Utf8.decode s k).2 ≤ s.size ∧ ∀ j (hj : j < s.size), k ≤ j → j < k + (Utf8.decode s k).2 → 128 ≤ (s[j]'hj).toNat) := decode_skip s k hlt (by omega)
        have HP : Hid (wr.iterPos w.heap.size = k) := iterPos_of hit
        generalize Utf8.decode s k = d at hnx hd HS
        obtain ⟨d1, d2⟩ := d
        dsimp only at hnx hd HS
        have hit2 := Lib.iterAt_heap wr w.heap.size s k (k + d2) hit
        have hb2 := Lib.below_iterAt hb (k := w.heap.size) (Nat.le_refl _) s (k + d2)
        have hown2 := ownsRow_iterAt hown (k := w.heap.size) (Nat.lt_succ_self _) s (k + d2)
        have h1 : ((d1 : Int) == 32) = false := by simp; omega
        go_wp2
        have hS := HS.out
        refine ⟨⟨k + d2, fr, P, by omega, hS.1, rfl, by omega, hown2, hit2, hb2, HI.out.skip hfk d2 hS.1 fun j hj a b => not_space (hS.2 j hj a b)⟩, ?_⟩
        rw [iterPos_of hit2, HP.out]; omega
    · have hnx : ∀ ty, (Instr.next (.pointer (some ⟨w.heap.size, 0, none⟩)) true ty).run Tryz.prog wr = _ := fun ty => Lib.run_next_end_at wr w.heap.size s k ty hit hlt
      have HK : Hid (k = s.size) := by show k = s.size; omega
      go_wp2_with (at_builtin; refine wpList_append_own _ rfl _ _ 130 rfl (w.heap.size + 1) 9 i0 (.string ByteArray.empty) 1 16 Tryz.underlying130 hi hz0 hz1 hz2 rfl (by decide) _ _ _ rfl (hown.alloc _) ⟨wr.heap.size, 0, none⟩ 1 1 [.string (s.extract fr s.size)] rfl rfl (cell_one_new _ _ _) (fun x hx => by simp at hx; subst hx; rfl) (by unfold maxLen; omega) (by omega) (by have := hb.size; simp; omega) ?_; intro v' w3 hown' hgrow3 hnil3)
      go_ret
      have h2 := HI.out
      rw [HK.out] at h2
      have h3 : StrsAt w3 v' (P ++ [s.extract fr s.size]) := strs_of_own (base := w.heap.size + 1) (e := 9) (by simpa using hown') (by simp)
      rw [cutW_eq h2.fin] at h3
      exact ⟨v', rfl, h3, (hb.alloc hb.size _).grown hgrow3 (by have := hb.size; simp; omega) (fun j hj => by have := own_ge hown _ hj; omega)⟩
end Go.Proofs.YtfjblenkcfdbiaaGreat
