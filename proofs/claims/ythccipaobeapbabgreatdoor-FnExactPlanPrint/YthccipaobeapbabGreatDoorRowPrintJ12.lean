/-
  For the proof of print_card: part 12 (Cut, Words, Bl, FitsB, Fits1, Fits2).
-/
import Derived.Deep.RegionHeld3
import Derived.Test.YthccipaobeapbabGreatDoorRowPrintJ11
/-
  A text cut at each space: the specification's l2Cut.
-/
namespace Go.Proofs.YthccipaobeapbabGreatDoor
open Go.RowKit

/-- v is a slice of texts, in w. -/
def StrsAt (w : World) (v : Value) (ws : List ByteArray) : Prop :=
  ∃ g off cap, v = .slice (some ⟨g, off, none⟩) ws.length cap ∧ ws.length ≤ cap ∧ cap ≤ maxLen ∧ ∀ i x, ws[i]? = some x → w.cell? ⟨g, off + i, none⟩ = some (.string x)
theorem StrsAt.keep {w w' : World} {v : Value} {ws : List ByteArray} (h : StrsAt w v ws) (hb : Below w.heap.size w w') : StrsAt w' v ws := by
  obtain ⟨g, off, cap, rfl, h1, h2, h3⟩ := h
  exact ⟨g, off, cap, rfl, h1, h2, fun i x hx => cell_keep hb (Nat.le_refl _) (h3 i x hx)⟩

/-- Pieces of bytes, cut at each space; cur is the piece at hand. -/
def cutA (cur : List UInt8) : List UInt8 → List (List UInt8)
  | [] => [cur]
  | c :: r => if c = 32 then cur :: cutA [] r else cutA (cur ++ [c]) r

def bytes (s : ByteArray) : List UInt8 := s.data.toList
theorem bytes_inj {a b : ByteArray} (h : bytes a = bytes b) : a = b := ByteArray.ext (Array.toList_inj.1 h)
theorem bytes_length (s : ByteArray) : (bytes s).length = s.size := by simp [bytes]
theorem bytes_extract (s : ByteArray) (a b : Nat) : bytes (s.extract a b) = ((bytes s).drop a).take (b - a) := by
  simp [bytes]

theorem drop_cons (s : ByteArray) (k : Nat) (h : k < s.size) : (bytes s).drop k = s[k] :: (bytes s).drop (k + 1) := by
  have hl : k < (bytes s).length := by rw [bytes_length]; exact h
  rw [List.drop_eq_getElem_cons hl]
  rfl
theorem piece_snoc (s : ByteArray) (a k : Nat) (ha : a ≤ k) (h : k < s.size) : bytes (s.extract a (k + 1)) = bytes (s.extract a k) ++ [s[k]] := by
  rw [bytes_extract, bytes_extract]
  have hl : k - a < ((bytes s).drop a).length := by rw [List.length_drop, bytes_length]; omega
  rw [show k + 1 - a = k - a + 1 by omega, List.take_succ_eq_append_getElem hl]
  congr 2
  simp only [List.getElem_drop]
  have : a + (k - a) = k := by omega
  simp only [this]
  rfl

/-- What is cut so far, the piece at hand, and the rest come to the whole. -/
def CutInv (s : ByteArray) (fr k : Nat) (P : List ByteArray) : Prop := P.map bytes ++ cutA (bytes (s.extract fr k)) ((bytes s).drop k) = cutA [] (bytes s)
theorem CutInv.start (s : ByteArray) : CutInv s 0 0 [] := by
  unfold CutInv
  rw [bytes_extract]
  simp
theorem CutInv.space {s : ByteArray} {fr k : Nat} {P : List ByteArray} (h : CutInv s fr k P) (hk : k < s.size) (hc : s[k] = 32) : CutInv s (k + 1) (k + 1) (P ++ [s.extract fr k]) := by
  unfold CutInv at h ⊢
  rw [drop_cons s k hk, cutA, if_pos hc] at h
  rw [← h, bytes_extract s (k + 1) (k + 1)]
  simp
theorem CutInv.other {s : ByteArray} {fr k : Nat} {P : List ByteArray} (h : CutInv s fr k P) (ha : fr ≤ k) (hk : k < s.size) (hc : ¬ s[k] = 32) : CutInv s fr (k + 1) P := by
  unfold CutInv at h ⊢
  rw [drop_cons s k hk, cutA, if_neg hc] at h
  rw [← h, piece_snoc s fr k ha hk]
theorem CutInv.fin {s : ByteArray} {fr : Nat} {P : List ByteArray} (h : CutInv s fr s.size P) : (P ++ [s.extract fr s.size]).map bytes = cutA [] (bytes s) := by
  unfold CutInv at h
  rw [List.drop_of_length_le (by rw [bytes_length]; omega), cutA] at h
  rw [← h]; simp

theorem u8_space (c : UInt8) : (((c.toNat : Nat) : Int) == 32) = (c == 32) := by
  rw [Bool.eq_iff_iff]
  simp only [beq_iff_eq]
  constructor
  · intro h
    apply UInt8.toNat_inj.1
    have : c.toNat = 32 := by omega
    simpa using this
  · rintro rfl; rfl

theorem own_ge {w : World} {base : Nat} {e : TypeId} {size : Nat} {v : Value} {n : Nat} {xs : List Value} (h : w.ownsRow base e size v n xs) : ∀ k, v.ownBlock = some k → base ≤ k := by
  intro k hk
  rcases h.2 with ⟨rfl, _⟩ | ⟨g, cap, cur, rfl, hg, _⟩
  · cases hk
  · cases hk; exact hg
theorem strs_of_own {w : World} {base : Nat} {e : TypeId} {v : Value} {ws : List ByteArray} (h : w.ownsRow base e 1 v ws.length (ws.map Value.string)) (hne : ws ≠ []) : StrsAt w v ws := by
  rcases h.2 with ⟨_, h0⟩ | ⟨g, cap, cur, rfl, _, hb, hn, hc, _, ht⟩
  · exact absurd (List.length_eq_zero_iff.1 h0) hne
  · refine ⟨g, 0, cap, rfl, hn, hc, fun i x hx => ?_⟩
    have hi : i < ws.length := (List.getElem?_eq_some_iff.1 hx).1
    have h1 : cur.toList[i]? = some (.string x) := by
      have h2 : (cur.toList.take (ws.length * 1))[i]? = some (.string x) := by rw [ht]; simp [hx]
      rw [List.getElem?_take] at h2
      simpa [hi] using h2
    simp only [Nat.zero_add, World.cell?, hb]
    simpa using h1

theorem infoStr : (Tryz.prog.info? 9).map (fun i => (i.zero, i.size, i.bytes)) = some (some (.string ByteArray.empty), 1, 16) := by kernel_rfl

set_option maxHeartbeats 1600000 in
theorem l2Cut_any (s : ByteArray) (w : World) (hs : s.size ≤ 1048576) :
    Calls Tryz.prog 60 #[.string s, .int .u8 32] w fun e w' => ∃ v ws, e = .returned v ∧ StrsAt w' v ws ∧ ws.map bytes = cutA [] (bytes s) ∧ Below w.heap.size w w' := by
  obtain ⟨i0, hi, hz0, hz1, hz2⟩ := info_parts infoStr
  go_enter Tryz.func60, Tryz.ntmps60
  go_wp2
  go_loopw [5, 6, 7] (fun o f i wr => ∃ (k fr : Nat) (P : List ByteArray), fr ≤ k ∧ k ≤ s.size ∧ i = .int .i64 k ∧ f = .int .i64 fr ∧ P.length ≤ k ∧ wr.ownsRow w.heap.size 9 1 o P.length (P.map Value.string) ∧ Below w.heap.size w wr ∧ Hid (CutInv s fr k P)) (fun _ _ i _ => s.size - (intOf i).toNat)
  case atStart => exact ⟨0, 0, [], Nat.le_refl _, Nat.zero_le _, rfl, rfl, Nat.le_refl _, World.ownsRow_made w #[] 0 (Nat.le_refl _) (Nat.zero_le _) rfl, (Below.refl _ _).alloc (Nat.le_refl _) _, CutInv.start s⟩
  case round =>
    obtain ⟨k, fr, P, hfk, hk, rfl, rfl, hpl, hown, hb, HI⟩ := hrel
    by_cases hlt : k < s.size
    · by_cases hc : s[k] = 32
      · have h1 : (((s[k].toNat : Nat) : Int) == 32) = true := by rw [u8_space]; simpa using hc
        have HC : Hid (s[k] = 32) := hc
        clear hc
        go_wp2_with (at_builtin; refine wpList_append_own _ rfl _ _ 50 rfl w.heap.size 9 i0 (.string ByteArray.empty) 1 16 Tryz.underlying50 hi hz0 hz1 hz2 rfl (by decide) _ _ _ rfl (hown.alloc _) ⟨wr.heap.size, 0, none⟩ 1 1 [.string (s.extract fr k)] rfl rfl (cell_one_new _ _ _) (fun x hx => by simp at hx; subst hx; rfl) (by unfold maxLen; omega) (by omega) (by have := hb.size; simp; omega) ?_; intro v' w3 hown' hgrow3 hnil3)
        refine ⟨⟨k + 1, k + 1, P ++ [s.extract fr k], Nat.le_refl _, by omega, by go_num, by go_num, by simp; omega, ?_, (hb.alloc hb.size _).grown hgrow3 (by have := hb.size; simp; omega) (own_ge hown), HI.out.space hlt HC.out⟩, by simp [intOf]; omega⟩
        simpa using hown'
      · have h1 : (((s[k].toNat : Nat) : Int) == 32) = false := by rw [u8_space]; simpa using hc
        have HC : Hid (¬ s[k] = 32) := hc
        clear hc
        go_wp2
        exact ⟨⟨k + 1, fr, P, by omega, by omega, by go_num, rfl, by omega, hown, hb, HI.out.other hfk hlt HC.out⟩, by simp [intOf]; omega⟩
    · have HK : Hid (k = s.size) := by show k = s.size; omega
      go_wp2_with (at_builtin; refine wpList_append_own _ rfl _ _ 50 rfl w.heap.size 9 i0 (.string ByteArray.empty) 1 16 Tryz.underlying50 hi hz0 hz1 hz2 rfl (by decide) _ _ _ rfl (hown.alloc _) ⟨wr.heap.size, 0, none⟩ 1 1 [.string (s.extract fr s.size)] rfl rfl (cell_one_new _ _ _) (fun x hx => by simp at hx; subst hx; rfl) (by unfold maxLen; omega) (by omega) (by have := hb.size; simp; omega) ?_; intro v' w3 hown' hgrow3 hnil3)
      go_ret
      refine ⟨v', P ++ [s.extract fr s.size], rfl, strs_of_own (base := w.heap.size) (e := 9) (by simpa using hown') (by simp), ?_, (hb.alloc hb.size _).grown hgrow3 (by have := hb.size; simp; omega) (own_ge hown)⟩
      have := HI.out
      rw [HK.out] at this
      exact this.fin
end Go.Proofs.YthccipaobeapbabGreatDoor

/-
  A text cut at each space, by its runes: impl's wordsOf gives the same pieces as the cut by bytes.
-/
namespace Go.Proofs.YthccipaobeapbabGreatDoor
open Go.RowKit

/-- The pieces of a text. -/
def cutW (s : ByteArray) : List ByteArray := (cutA [] (bytes s)).map fun l => ⟨⟨l⟩⟩
theorem cutW_eq {s : ByteArray} {ws : List ByteArray} (h : ws.map bytes = cutA [] (bytes s)) : ws = cutW s := by
  unfold cutW
  rw [← h, List.map_map]
  have : ((fun l => (⟨⟨l⟩⟩ : ByteArray)) ∘ bytes) = id := by funext x; rfl
  rw [this, List.map_id]
theorem get!_eq (s : ByteArray) (k : Nat) (h : k < s.size) : s.get! k = s[k] := get_at s k h

theorem decode_skip (s : ByteArray) (pos : Nat) (h : pos < s.size) (ha : 128 ≤ (s[pos]'h).toNat) :
    pos + (Utf8.decode s pos).2 ≤ s.size ∧ ∀ j (hj : j < s.size), pos ≤ j → j < pos + (Utf8.decode s pos).2 → 128 ≤ (s[j]'hj).toNat := by
  have hn : ¬ (s[pos]'h).toNat < 128 := by omega
  have one : ∀ j (hj : j < s.size), pos ≤ j → j < pos + 1 → 128 ≤ (s[j]'hj).toNat := fun j hj h1 h2 => by
    have : j = pos := by omega
    subst this; exact ha
  have more : ∀ k, pos + k < s.size → (s.get! (pos + k)).toNat / 64 = 2 → ∀ (hj : pos + k < s.size), 128 ≤ (s[pos + k]'hj).toNat := fun k hk hq hj => by
    rw [get!_eq s _ hj] at hq; omega
  simp only [Utf8.decode, get_at s pos h, hn, if_false]
  split
  · next hc =>
    simp only [Bool.and_eq_true, decide_eq_true_eq, beq_iff_eq] at hc
    obtain ⟨_, h1, q1⟩ := hc
    split
    · refine ⟨by show pos + 2 ≤ _; omega, fun j hj a b => ?_⟩
      have b' : j < pos + 2 := b
      by_cases e : j = pos
      · exact one j hj a (by omega)
      · obtain rfl : j = pos + 1 := by omega
        exact more 1 h1 q1 hj
    · exact ⟨by show pos + 1 ≤ _; omega, fun j hj a b => one j hj a b⟩
  · split
    · next hc =>
      simp only [Bool.and_eq_true, decide_eq_true_eq, beq_iff_eq] at hc
      obtain ⟨⟨_, h1, q1⟩, h2, q2⟩ := hc
      split
      · refine ⟨by show pos + 3 ≤ _; omega, fun j hj a b => ?_⟩
        have b' : j < pos + 3 := b
        by_cases e : j = pos
        · exact one j hj a (by omega)
        · by_cases e2 : j = pos + 1
          · subst e2; exact more 1 h1 q1 hj
          · obtain rfl : j = pos + 2 := by omega
            exact more 2 h2 q2 hj
      · exact ⟨by show pos + 1 ≤ _; omega, fun j hj a b => one j hj a b⟩
    · split
      · next hc =>
        simp only [Bool.and_eq_true, decide_eq_true_eq, beq_iff_eq] at hc
        obtain ⟨⟨⟨_, h1, q1⟩, h2, q2⟩, h3, q3⟩ := hc
        split
        · refine ⟨by show pos + 4 ≤ _; omega, fun j hj a b => ?_⟩
          have b' : j < pos + 4 := b
          by_cases e : j = pos
          · exact one j hj a (by omega)
          · by_cases e2 : j = pos + 1
            · subst e2; exact more 1 h1 q1 hj
            · by_cases e3 : j = pos + 2
              · subst e3; exact more 2 h2 q2 hj
              · obtain rfl : j = pos + 3 := by omega
                exact more 3 h3 q3 hj
        · exact ⟨by show pos + 1 ≤ _; omega, fun j hj a b => one j hj a b⟩
      · exact ⟨by show pos + 1 ≤ _; omega, fun j hj a b => one j hj a b⟩

theorem CutInv.skip {s : ByteArray} {fr k : Nat} {P : List ByteArray} (h : CutInv s fr k P) (ha : fr ≤ k) : ∀ n, k + n ≤ s.size → (∀ j (hj : j < s.size), k ≤ j → j < k + n → ¬ s[j] = 32) → CutInv s fr (k + n) P
  | 0, _, _ => h
  | n + 1, hk, hc => (CutInv.skip h ha n (by omega) (fun j hj a b => hc j hj a (by omega))).other (by omega) (by omega : k + n < s.size) (hc _ _ (by omega) (by omega))

theorem not_space {c : UInt8} (h : 128 ≤ c.toNat) : ¬ c = 32 := fun e => by rw [e] at h; simp at h

set_option maxHeartbeats 1600000 in
theorem wordsOf_any (s : ByteArray) (w : World) (hs : s.size ≤ 1048576) :
    Calls Tryz.prog 191 #[.string s] w fun e w' => ∃ v, e = .returned v ∧ StrsAt w' v (cutW s) ∧ Below w.heap.size w w' := by
  obtain ⟨i0, hi, hz0, hz1, hz2⟩ := info_parts infoStr
  go_enter Tryz.func191, Tryz.ntmps191
  go_wp2
  go_loopw [3, 4, 5, 6] (fun o f _ _ wr => ∃ (k fr : Nat) (P : List ByteArray), fr ≤ k ∧ k ≤ s.size ∧ f = .int .i64 fr ∧ P.length ≤ k ∧ wr.ownsRow (w.heap.size + 1) 9 1 o P.length (P.map Value.string) ∧ wr.heap[w.heap.size]? = some (.stringIter s k) ∧ Below w.heap.size w wr ∧ Hid (CutInv s fr k P)) (fun _ _ _ _ wr => s.size - wr.iterPos w.heap.size)
  case atStart => exact ⟨0, 0, [], Nat.le_refl _, Nat.zero_le _, rfl, Nat.le_refl _, ⟨rfl, .inl ⟨rfl, rfl⟩⟩, World.iter_heap w s 0, (Below.refl _ _).alloc (Nat.le_refl _) _, CutInv.start s⟩
  case round =>
    obtain ⟨k, fr, P, hfk, hk, rfl, hpl, hown, hit, hb, HI⟩ := hrel
    have hsz : w.heap.size < wr.heap.size := (Array.getElem?_eq_some_iff.1 hit).1
    by_cases hlt : k < s.size
    · by_cases ha : s[k].toNat < 128
      · have hnx : ∀ ty, (Instr.next (.pointer (some ⟨w.heap.size, 0, none⟩)) true ty).run Tryz.prog wr = _ := fun ty => Lib.run_next_ascii_at wr w.heap.size s k ty hit hlt ha
        have hit2 := Lib.iterAt_heap wr w.heap.size s k (k + 1) hit
        have hb2 := Lib.below_iterAt hb (k := w.heap.size) (Nat.le_refl _) s (k + 1)
        have hown2 := ownsRow_iterAt hown (k := w.heap.size) (Nat.lt_succ_self _) s (k + 1)
        have HP : Hid (wr.iterPos w.heap.size = k) := iterPos_of hit
        by_cases hc : s[k] = 32
        · have h1 : (((s[k].toNat : Nat) : Int) == 32) = true := by rw [u8_space]; simpa using hc
          have HC : Hid (s[k] = 32) := hc
          clear hc
          generalize hW : wr.iterAt w.heap.size s (k + 1) = W at hnx hit2 hb2 hown2
          have hszW : w.heap.size < W.heap.size := (Array.getElem?_eq_some_iff.1 hit2).1
          clear hW
          go_wp2_with (at_builtin; refine wpList_append_own _ rfl _ _ 50 rfl (w.heap.size + 1) 9 i0 (.string ByteArray.empty) 1 16 Tryz.underlying50 hi hz0 hz1 hz2 rfl (by decide) _ _ _ rfl (hown2.alloc _) ⟨W.heap.size, 0, none⟩ 1 1 [.string (s.extract fr k)] rfl rfl (cell_one_new _ _ _) (fun x hx => by simp at hx; subst hx; rfl) (by unfold maxLen; omega) (by omega) (by have := hb.size; simp; omega) ?_; intro v' w3 hown' hgrow3 hnil3)
          have hit3 : w3.heap[w.heap.size]? = some (.stringIter s (k + 1)) := (hgrow3.block w.heap.size (by simp; omega) (fun hj => by have := own_ge hown2 _ hj.symm; omega)).trans ((Below.heap_alloc _ _ _ hszW).trans hit2)
          refine ⟨⟨k + 1, k + 1, P ++ [s.extract fr k], Nat.le_refl _, by omega, by go_num, by simp; omega, by simpa using hown', hit3, (hb2.alloc hb2.size _).grown hgrow3 (by have := hb2.size; simp; omega) (fun j hj => by have := own_ge hown2 _ hj; omega), HI.out.space hlt HC.out⟩, ?_⟩
          rw [iterPos_of hit3, HP.out]; omega
        · have h1 : (((s[k].toNat : Nat) : Int) == 32) = false := by rw [u8_space]; simpa using hc
          have HC : Hid (¬ s[k] = 32) := hc
          clear hc
          go_wp2
          refine ⟨⟨k + 1, fr, P, by omega, by omega, rfl, by omega, hown2, hit2, hb2, HI.out.other hfk hlt HC.out⟩, ?_⟩
          rw [iterPos_of hit2, HP.out]; omega
      · have hnx : ∀ ty, (Instr.next (.pointer (some ⟨w.heap.size, 0, none⟩)) true ty).run Tryz.prog wr = _ := fun ty => Lib.run_next_any_at wr w.heap.size s k ty hit hlt
        have hd := decode_high s k hlt (by omega)
        have HS : Hid (k + (Utf8.decode s k).2 ≤ s.size ∧ ∀ j (hj : j < s.size), k ≤ j → j < k + (Utf8.decode s k).2 → 128 ≤ (s[j]'hj).toNat) := decode_skip s k hlt (by omega)
        have HP : Hid (wr.iterPos w.heap.size = k) := iterPos_of hit
        generalize Utf8.decode s k = d at hnx hd HS
        obtain ⟨d1, d2⟩ := d
        dsimp only at hnx hd HS
        have hit2 := Lib.iterAt_heap wr w.heap.size s k (k + d2) hit
        have hb2 := Lib.below_iterAt hb (k := w.heap.size) (Nat.le_refl _) s (k + d2)
        have hown2 := ownsRow_iterAt hown (k := w.heap.size) (Nat.lt_succ_self _) s (k + d2)
        have h1 : ((d1 : Int) == 32) = false := by simp; omega
        go_wp2
        have hS := HS.out
        refine ⟨⟨k + d2, fr, P, by omega, hS.1, rfl, by omega, hown2, hit2, hb2, HI.out.skip hfk d2 hS.1 fun j hj a b => not_space (hS.2 j hj a b)⟩, ?_⟩
        rw [iterPos_of hit2, HP.out]; omega
    · have hnx : ∀ ty, (Instr.next (.pointer (some ⟨w.heap.size, 0, none⟩)) true ty).run Tryz.prog wr = _ := fun ty => Lib.run_next_end_at wr w.heap.size s k ty hit hlt
      have HK : Hid (k = s.size) := by show k = s.size; omega
      go_wp2_with (at_builtin; refine wpList_append_own _ rfl _ _ 50 rfl (w.heap.size + 1) 9 i0 (.string ByteArray.empty) 1 16 Tryz.underlying50 hi hz0 hz1 hz2 rfl (by decide) _ _ _ rfl (hown.alloc _) ⟨wr.heap.size, 0, none⟩ 1 1 [.string (s.extract fr s.size)] rfl rfl (cell_one_new _ _ _) (fun x hx => by simp at hx; subst hx; rfl) (by unfold maxLen; omega) (by omega) (by have := hb.size; simp; omega) ?_; intro v' w3 hown' hgrow3 hnil3)
      go_ret
      have h2 := HI.out
      rw [HK.out] at h2
      have h3 : StrsAt w3 v' (P ++ [s.extract fr s.size]) := strs_of_own (base := w.heap.size + 1) (e := 9) (by simpa using hown') (by simp)
      rw [cutW_eq h2.fin] at h3
      exact ⟨v', rfl, h3, (hb.alloc hb.size _).grown hgrow3 (by have := hb.size; simp; omega) (fun j hj => by have := own_ge hown _ hj; omega)⟩
end Go.Proofs.YthccipaobeapbabGreatDoor

/-
  Plain facts: texts in the order of their bytes.
-/
namespace Go.Proofs.YthccipaobeapbabGreatDoor
open Go.RowKit

theorem bl_irrefl : ∀ a : List UInt8, Op.bytesLess a a = false
  | [] => rfl
  | a :: x => by
    have : ¬ a < a := UInt8.lt_irrefl a
    simp [Op.bytesLess, bl_irrefl x]
theorem bl_trans : ∀ a b c : List UInt8, Op.bytesLess a b = true → Op.bytesLess b c = true → Op.bytesLess a c = true
  | a, b, [], h, k => by cases b <;> simp [Op.bytesLess] at k
  | a, [], c :: z, h, k => by cases a <;> simp [Op.bytesLess] at h
  | [], b :: y, c :: z, h, k => rfl
  | a :: x, b :: y, c :: z, h, k => by
    simp only [Op.bytesLess, Bool.or_eq_true, Bool.and_eq_true, decide_eq_true_eq, beq_iff_eq] at h k ⊢
    rcases h with h | ⟨rfl, h⟩
    · rcases k with k | ⟨rfl, k⟩
      · exact .inl (UInt8.lt_trans h k)
      · exact .inl h
    · rcases k with k | ⟨rfl, k⟩
      · exact .inl k
      · exact .inr ⟨rfl, bl_trans x y z h k⟩
theorem bl_total : ∀ a b : List UInt8, Op.bytesLess a b = false → Op.bytesLess b a = false → a = b
  | [], [], _, _ => rfl
  | [], b :: y, h, _ => by simp [Op.bytesLess] at h
  | a :: x, [], _, k => by simp [Op.bytesLess] at k
  | a :: x, b :: y, h, k => by
    simp only [Op.bytesLess, Bool.or_eq_false_iff, decide_eq_false_iff_not, Bool.and_eq_false_iff, beq_eq_false_iff_ne] at h k
    have e : a = b := by
      have h1 : b ≤ a := UInt8.not_lt.1 h.1
      have h2 : a ≤ b := UInt8.not_lt.1 k.1
      exact UInt8.le_antisymm h2 h1
    subst e
    have h2 : Op.bytesLess x y = false := by rcases h.2 with h | h; exact absurd rfl h; exact h
    have k2 : Op.bytesLess y x = false := by rcases k.2 with k | k; exact absurd rfl k; exact k
    rw [bl_total x y h2 k2]
def blS (a b : ByteArray) : Bool := Op.bytesLess a.toList b.toList
theorem blS_irrefl (a : ByteArray) : blS a a = false := bl_irrefl _
theorem blS_trans {a b c : ByteArray} (h : blS a b = true) (k : blS b c = true) : blS a c = true := bl_trans _ _ _ h k
theorem blS_total {a b : ByteArray} (h : blS a b = false) (k : blS b a = false) : a = b := by
  have := bl_total _ _ h k
  rw [ByteArray.toList_eq, ByteArray.toList_eq] at this
  exact bytes_inj this
end Go.Proofs.YthccipaobeapbabGreatDoor

/-
  Plain facts: what fits.
-/
namespace Go.Proofs.YthccipaobeapbabGreatDoor
open Go.RowKit

theorem str_eq {a b : ByteArray} (h : a = b) : (a.toList == b.toList) = true := by subst h; simp
theorem str_ne {a b : ByteArray} (h : ¬ a = b) : (a.toList == b.toList) = false := by
  rw [ByteArray.toList_eq, ByteArray.toList_eq]
  simp only [beq_eq_false_iff_ne, ne_eq]
  exact fun e => h (bytes_inj e)

/-- One of the list has this name. -/
def memB (l : List Tri) (v : ByteArray) : Bool := !allB l.length fun i => !decide ((at' l i).s = v)
theorem memB_true {l : List Tri} {v : ByteArray} {k : Nat} (hk : k < l.length) (h : (at' l k).s = v) : memB l v = true := by
  unfold memB; rw [allB_false hk (by simp [h])]; rfl
theorem memB_false {l : List Tri} {v : ByteArray} (h : ∀ j, j < l.length → ¬ (at' l j).s = v) : memB l v = false := by
  unfold memB; rw [allB_true fun j hj => by simp [h j hj]]; rfl

/-- The place of the first that does not come ahead of this name; behind the last, if there is none. -/
def plc (l : List Tri) (v : ByteArray) : Nat := l.findIdx fun t => geB t.s v
/-- It has this name. -/
def hasB (l : List Tri) (v : ByteArray) : Bool := decide (plc l v < l.length) && decide ((at' l (plc l v)).s = v)
theorem plc_some {l : List Tri} {v : ByteArray} {k : Nat} (hk : k < l.length) (h : geB (at' l k).s v = true) (hn : ∀ j, j < k → geB (at' l j).s v = false) : plc l v = k := by
  have e : ∀ j (hj : j < l.length), at' l j = l[j] := fun j hj => by simp [at', hj]
  unfold plc
  rw [List.findIdx_eq hk]
  exact ⟨by rw [← e k hk]; exact h, fun j hj => by rw [← e j (by omega)]; exact hn j hj⟩
theorem plc_none {l : List Tri} {v : ByteArray} (h : ∀ j, j < l.length → geB (at' l j).s v = false) : plc l v = l.length := by
  unfold plc
  rw [List.findIdx_eq_length]
  intro t ht
  obtain ⟨j, hj, rfl⟩ := List.getElem_of_mem ht
  have := h j hj
  simpa [at', hj] using this
theorem hasB_at {l : List Tri} {v : ByteArray} {k : Nat} (hk : k < l.length) (h : geB (at' l k).s v = true) (hn : ∀ j, j < k → geB (at' l j).s v = false) : hasB l v = decide ((at' l k).s = v) := by
  unfold hasB; rw [plc_some hk h hn]; simp [hk]
theorem hasB_end {l : List Tri} {v : ByteArray} (h : ∀ j, j < l.length → geB (at' l j).s v = false) : hasB l v = false := by
  unfold hasB; rw [plc_none h]; simp
theorem geB_bl (a b : ByteArray) : geB a b = !blS a b := rfl
theorem asc_lt {l : List Tri} (h : ∀ i, i < l.length → ascB l i = true) : ∀ i j, i < j → j < l.length → blS (at' l i).s (at' l j).s = true := by
  have one : ∀ i, i + 1 < l.length → blS (at' l i).s (at' l (i + 1)).s = true := fun i hi => by
    have := h (i + 1) hi
    unfold ascB at this
    rw [geB_bl] at this
    simpa using this
  intro i j hij
  induction j with
  | zero => omega
  | succ j ih =>
    intro hj
    by_cases e : i = j
    · subst e; exact one i hj
    · exact blS_trans (ih (by omega) (by omega)) (one j hj)
/-- In a list that is ascending both say the same. -/
theorem has_mem {l : List Tri} {v : ByteArray} (h : ∀ i, i < l.length → ascB l i = true) : hasB l v = memB l v := by
  by_cases hm : ∃ k, k < l.length ∧ (at' l k).s = v
  · obtain ⟨k, hk, he⟩ := hm
    rw [memB_true hk he, hasB_at hk (by rw [he, geB_bl, blS_irrefl]; rfl) fun j hj => by rw [← he, geB_bl, asc_lt h j k hj hk]; rfl]
    simp [he]
  · rw [memB_false fun j hj he => hm ⟨j, hj, he⟩]
    unfold hasB
    rw [Bool.and_eq_false_iff]
    by_cases hp : plc l v < l.length
    · right; exact decide_eq_false fun he => hm ⟨_, hp, he⟩
    · left; exact decide_eq_false hp
theorem names_asc {l : List Tri} {m : Nat} (h : namesB l m = true) : ∀ i, i < l.length → ascB l i = true := fun i hi => by
  unfold namesB at h
  rw [Bool.and_eq_true] at h
  have := allB_get h.2 i hi
  rw [Bool.and_eq_true] at this
  exact this.2
theorem kinds_asc {l : List Tri} (h : kindsB l = true) : ∀ i, i < l.length → ascB l i = true := by
  unfold kindsB at h; rw [Bool.and_eq_true] at h; exact names_asc h.1
theorem points_asc {l : List Tri} (h : pointsB l = true) : ∀ i, i < l.length → ascB l i = true := by
  unfold pointsB at h; rw [Bool.and_eq_true] at h; exact names_asc h.1

/-- The word at a place. -/
def wat (ws : List ByteArray) (i : Nat) : ByteArray := ws.getD i ⟨#[]⟩
theorem wat_get {ws : List ByteArray} {i : Nat} (h : i < ws.length) : ws[i]? = some (wat ws i) := by simp [wat, h]
def numV (s : ByteArray) : Nat := numTo s s.size
def timeB (ws : List ByteArray) : Bool := decide (ws.length = 2) && (decB (wat ws 0) && (decB (wat ws 1) && (decide (numV (wat ws 0) ≤ numV (wat ws 1)) && decide (numV (wat ws 1) ≤ 10000))))
def levelB (s : ByteArray) : Bool := decB s && inB (numV s) 1 6
def stepB (ps : List Tri) (ws : List ByteArray) (i : Nat) : Bool := hasB ps (wat ws i) && !(decide (0 < i) && decide (wat ws (i - 1) = wat ws i))
def routeB (ps : List Tri) (ws : List ByteArray) : Bool := inB ws.length 2 8 && allB ws.length (stepB ps ws)
def openS : ByteArray := ⟨#[111, 112, 101, 110]⟩
def closedS : ByteArray := ⟨#[99, 108, 111, 115, 101, 100]⟩
def stateB (s : ByteArray) : Bool := decide (s = openS) || decide (s = closedS)
/-- What fits, in a base that is ok. -/
def valB2 (ks ps : List Tri) (what : Int) (s : ByteArray) : Bool :=
  if what = 1 then hasB ks s else if what = 2 then timeB (cutW s) else if what = 3 then levelB s else if what = 4 then routeB ps (cutW s) else if what = 5 then stateB s else false
def baseB (ks ps : List Tri) : Bool := kindsB ks && pointsB ps
def fitB (ks ps : List Tri) (c : Chg) : Bool := nameB c.f && (inB c.num 1 1000000 && valB2 ks ps c.what c.v)

theorem cutA_sizes : ∀ (r cur : List UInt8) (x : List UInt8), x ∈ cutA cur r → x.length ≤ cur.length + r.length
  | [], cur, x, h => by simp [cutA] at h; subst h; simp
  | c :: r, cur, x, h => by
    rw [cutA] at h
    split at h
    · rcases List.mem_cons.1 h with rfl | h
      · simp
      · have := cutA_sizes r [] x h; simp at this ⊢; omega
    · have := cutA_sizes r (cur ++ [c]) x h; simp at this ⊢; omega
theorem cutW_size (s : ByteArray) : ∀ x ∈ cutW s, x.size ≤ s.size := fun x hx => by
  unfold cutW at hx
  obtain ⟨l, hl, rfl⟩ := List.mem_map.1 hx
  have := cutA_sizes _ _ _ hl
  rw [bytes_length, List.length_nil, Nat.zero_add] at this
  exact this
theorem wat_size {s : ByteArray} {i : Nat} (h : i < (cutW s).length) : (wat (cutW s) i).size ≤ s.size := cutW_size s _ (List.mem_of_getElem? (wat_get h))
end Go.Proofs.YthccipaobeapbabGreatDoor

/-
  impl: the rules of what fits.
-/
namespace Go.Proofs.YthccipaobeapbabGreatDoor
open Go.RowKit

set_option maxHeartbeats 1600000 in
theorem placeKind_any (v : Value) (l : List Tri) (s : ByteArray) (w : World) (hv : TrisAt w v l) :
    Calls Tryz.prog 175 #[v, .string s, .func (.func 155) #[] #[]] w fun e w' => e = .returned (.tuple #[.int .i64 (plc l s : Nat), .bool (hasB l s)]) ∧ Below w.heap.size w w' := by
  obtain ⟨a, cap, rfl, hlc, hcm, hc⟩ := hv
  unfold maxLen at hcm
  have HC : Hid (∀ i t, l[i]? = some t → ∃ b off, a = some ⟨b, off, none⟩ ∧ TriAt w b (off + i * 3) t) := hc
  clear hc
  go_enter Tryz.func175, Tryz.ntmps175
  go_wp2
  go_loopw [7, 8, 12] (fun _ _ i wr => ∃ k : Nat, k ≤ l.length ∧ i = .int .i64 k ∧ Below w.heap.size w wr ∧ Hid (∀ j, j < k → geB (at' l j).s s = false)) (fun _ _ i _ => l.length - (intOf i).toNat)
  case atStart => exact ⟨0, Nat.zero_le _, rfl, Below.refl _ _, fun j hj => absurd hj (Nat.not_lt_zero _)⟩
  case round =>
    obtain ⟨k, hk, rfl, hb, HA⟩ := hrel
    by_cases hlt : k < l.length
    · obtain ⟨b, off, rfl, hc⟩ := HC.out k _ (at_get hlt)
      obtain ⟨d0, d1, d2⟩ := hc.keep hb (Nat.le_refl _)
      have hk0 : (0 : Int) ≤ (k : Int) := by omega
      have hk1 : (k : Int) < (l.length : Int) := by omega
      go_wp2_with fail
      refine (kindName_any (at' l k) _).mono ?_
      rintro e w1 ⟨rfl, hb1⟩
      have tn : TriAt w1 wr.heap.size 0 (at' l k) := TriAt.keep (w := wr.alloc (.cells #[.string (at' l k).s, .int .i64 (at' l k).x, .int .i64 (at' l k).y] 49)) ⟨by simp, by simp, by simp⟩ hb1 (Nat.le_refl _)
      have HBW : Hid (Below w.heap.size w w1) := below_step (hb.alloc hb.size _) hb1
      obtain ⟨n0, n1, n2⟩ := tn
      clear hb1 d0 d1 d2 hc
      cases hg : geB (at' l k).s s
      · have hg' : Op.bytesLess (at' l k).s.toList s.toList = true := by unfold geB at hg; simpa using hg
        have HG : Hid (geB (at' l k).s s = false) := hg
        clear hg
        go_wp2
        exact ⟨⟨k + 1, by omega, by go_num, HBW.out, fun j hj => if e : j = k then by rw [e]; exact HG.out else HA.out j (by omega)⟩, by simp [intOf]; omega⟩
      · have hg' : Op.bytesLess (at' l k).s.toList s.toList = false := by unfold geB at hg; simpa using hg
        have HG : Hid (geB (at' l k).s s = true) := hg
        have HP : Hid (plc l s = k) := plc_some hlt hg HA.out
        have HH : Hid (hasB l s = decide ((at' l k).s = s)) := hasB_at hlt hg HA.out
        clear hg
        have hq : ((at' l k).s.toList == s.toList) = decide ((at' l k).s = s) := by
          by_cases hx : (at' l k).s = s
          · rw [str_eq hx]; simp [hx]
          · rw [str_ne hx]; simp [hx]
        go_wp2_with fail
        refine (kindName_any (at' l k) _).mono ?_
        rintro e w2 ⟨rfl, hb2⟩
        go_wp2
        go_ret2
        exact ⟨by rw [HP.out, HH.out]; rfl, below_step HBW.out hb2⟩
    · go_wp2
      go_ret2
      exact ⟨by rw [plc_none fun j hj => HA.out j (by omega), hasB_end fun j hj => HA.out j (by omega)]; rfl, hb⟩
set_option maxHeartbeats 1600000 in
theorem placePoint_any (v : Value) (l : List Tri) (s : ByteArray) (w : World) (hv : TrisAt w v l) :
    Calls Tryz.prog 178 #[v, .string s, .func (.func 158) #[] #[]] w fun e w' => e = .returned (.tuple #[.int .i64 (plc l s : Nat), .bool (hasB l s)]) ∧ Below w.heap.size w w' := by
  obtain ⟨a, cap, rfl, hlc, hcm, hc⟩ := hv
  unfold maxLen at hcm
  have HC : Hid (∀ i t, l[i]? = some t → ∃ b off, a = some ⟨b, off, none⟩ ∧ TriAt w b (off + i * 3) t) := hc
  clear hc
  go_enter Tryz.func178, Tryz.ntmps178
  go_wp2
  go_loopw [7, 8, 12] (fun _ _ i wr => ∃ k : Nat, k ≤ l.length ∧ i = .int .i64 k ∧ Below w.heap.size w wr ∧ Hid (∀ j, j < k → geB (at' l j).s s = false)) (fun _ _ i _ => l.length - (intOf i).toNat)
  case atStart => exact ⟨0, Nat.zero_le _, rfl, Below.refl _ _, fun j hj => absurd hj (Nat.not_lt_zero _)⟩
  case round =>
    obtain ⟨k, hk, rfl, hb, HA⟩ := hrel
    by_cases hlt : k < l.length
    · obtain ⟨b, off, rfl, hc⟩ := HC.out k _ (at_get hlt)
      obtain ⟨d0, d1, d2⟩ := hc.keep hb (Nat.le_refl _)
      have hk0 : (0 : Int) ≤ (k : Int) := by omega
      have hk1 : (k : Int) < (l.length : Int) := by omega
      go_wp2_with fail
      refine (pointName_any (at' l k) _).mono ?_
      rintro e w1 ⟨rfl, hb1⟩
      have tn : TriAt w1 wr.heap.size 0 (at' l k) := TriAt.keep (w := wr.alloc (.cells #[.string (at' l k).s, .int .i64 (at' l k).x, .int .i64 (at' l k).y] 80)) ⟨by simp, by simp, by simp⟩ hb1 (Nat.le_refl _)
      have HBW : Hid (Below w.heap.size w w1) := below_step (hb.alloc hb.size _) hb1
      obtain ⟨n0, n1, n2⟩ := tn
      clear hb1 d0 d1 d2 hc
      cases hg : geB (at' l k).s s
      · have hg' : Op.bytesLess (at' l k).s.toList s.toList = true := by unfold geB at hg; simpa using hg
        have HG : Hid (geB (at' l k).s s = false) := hg
        clear hg
        go_wp2
        exact ⟨⟨k + 1, by omega, by go_num, HBW.out, fun j hj => if e : j = k then by rw [e]; exact HG.out else HA.out j (by omega)⟩, by simp [intOf]; omega⟩
      · have hg' : Op.bytesLess (at' l k).s.toList s.toList = false := by unfold geB at hg; simpa using hg
        have HG : Hid (geB (at' l k).s s = true) := hg
        have HP : Hid (plc l s = k) := plc_some hlt hg HA.out
        have HH : Hid (hasB l s = decide ((at' l k).s = s)) := hasB_at hlt hg HA.out
        clear hg
        have hq : ((at' l k).s.toList == s.toList) = decide ((at' l k).s = s) := by
          by_cases hx : (at' l k).s = s
          · rw [str_eq hx]; simp [hx]
          · rw [str_ne hx]; simp [hx]
        go_wp2_with fail
        refine (pointName_any (at' l k) _).mono ?_
        rintro e w2 ⟨rfl, hb2⟩
        go_wp2
        go_ret2
        exact ⟨by rw [HP.out, HH.out]; rfl, below_step HBW.out hb2⟩
    · go_wp2
      go_ret2
      exact ⟨by rw [plc_none fun j hj => HA.out j (by omega), hasB_end fun j hj => HA.out j (by omega)]; rfl, hb⟩

set_option maxHeartbeats 800000 in
theorem kindRule_any (vk vp : Value) (l : List Tri) (s : ByteArray) (w : World) (hv : TrisAt w vk l) :
    Calls Tryz.prog 290 #[.agg #[], .agg #[vk, vp], .string s] w fun e w' => e = .returned (.bool (hasB l s)) ∧ Below w.heap.size w w' := by
  have HV : Hid (TrisAt w vk l) := hv
  obtain ⟨a, cap, rfl, -, -, -⟩ := hv
  go_enter Tryz.func290, Tryz.ntmps290
  go_wp2_with fail
  refine (placeKind_any _ l s _ (HV.out.keep (((Below.refl _ _).alloc (Nat.le_refl _) _).alloc (by simp) _))).mono ?_
  rintro e w1 ⟨rfl, hb1⟩
  go_wp2
  go_ret
  exact ⟨rfl, below_step (((Below.refl _ _).alloc (Nat.le_refl _) _).alloc (by simp) _) hb1⟩

theorem open_list : openS.toList = [111, 112, 101, 110] := by rw [ByteArray.toList_eq]; rfl
theorem closed_list : closedS.toList = [99, 108, 111, 115, 101, 100] := by rw [ByteArray.toList_eq]; rfl

set_option maxHeartbeats 800000 in
theorem stateRule_any (vk vp : Value) (s : ByteArray) (w : World) :
    Calls Tryz.prog 295 #[.agg #[], .agg #[vk, vp], .string s] w fun e w' => e = .returned (.bool (stateB s)) ∧ Below w.heap.size w w' := by
  by_cases h1 : s = openS
  · have e : stateB s = true := by simp [stateB, h1]
    have g1 : (s.toList == [111, 112, 101, 110]) = true := open_list ▸ str_eq h1
    rw [e]; clear e h1
    go_enter Tryz.func295, Tryz.ntmps295
    go_wp2
    go_ret
    exact ⟨rfl, ((Below.refl _ _).alloc (Nat.le_refl _) _).alloc (by simp) _⟩
  · have g1 : (s.toList == [111, 112, 101, 110]) = false := open_list ▸ str_ne h1
    by_cases h2 : s = closedS
    · have e : stateB s = true := by simp [stateB, h2]
      have g2 : (s.toList == [99, 108, 111, 115, 101, 100]) = true := closed_list ▸ str_eq h2
      rw [e]; clear e h1 h2
      go_enter Tryz.func295, Tryz.ntmps295
      go_wp2
      go_ret
      exact ⟨rfl, ((Below.refl _ _).alloc (Nat.le_refl _) _).alloc (by simp) _⟩
    · have e : stateB s = false := by simp [stateB, h1, h2]
      have g2 : (s.toList == [99, 108, 111, 115, 101, 100]) = false := closed_list ▸ str_ne h2
      rw [e]; clear e h1 h2
      go_enter Tryz.func295, Tryz.ntmps295
      go_wp2
      go_ret
      exact ⟨rfl, ((Below.refl _ _).alloc (Nat.le_refl _) _).alloc (by simp) _⟩

set_option maxHeartbeats 800000 in
theorem levelRule_any (vk vp : Value) (s : ByteArray) (w : World) (hs : s.size ≤ 1048576) :
    Calls Tryz.prog 292 #[.agg #[], .agg #[vk, vp], .string s] w fun e w' => e = .returned (.bool (levelB s)) ∧ Below w.heap.size w w' := by
  have HRD : Hid (∀ wx : World, Calls Tryz.prog 167 #[.string s] wx fun e w' => e = .returned (.tuple #[.int .i64 (bif decB s then (numV s : Int) else 0), .bool (decB s)]) ∧ Below wx.heap.size wx w') := fun wx => readDecimal_any s wx (by unfold maxLen; omega)
  cases hd : decB s
  · have e : levelB s = false := by simp [levelB, hd]
    have HD : Hid (decB s = false) := hd
    rw [e]; clear e hd
    go_enter Tryz.func292, Tryz.ntmps292
    go_wp2_with fail
    refine (HRD.out _).mono ?_
    rw [HD.out]
    rintro e w1 ⟨rfl, hb1⟩
    go_wp2
    go_ret
    exact ⟨rfl, below_step (((Below.refl _ _).alloc (Nat.le_refl _) _).alloc (by simp) _) hb1⟩
  · have e : levelB s = inB (numV s) 1 6 := by simp [levelB, hd]
    have HD : Hid (decB s = true) := hd
    rw [e]; clear e hd
    generalize numV s = n at HRD
    by_cases h1 : 1 ≤ (n : Int)
    · by_cases h2 : (n : Int) ≤ 6
      · have e : inB n 1 6 = true := by simp [inB, h1, h2]
        rw [e]; clear e
        go_enter Tryz.func292, Tryz.ntmps292
        go_wp2_with fail
        refine (HRD.out _).mono ?_
        rw [HD.out, cond_true]
        rintro e w1 ⟨rfl, hb1⟩
        go_wp2
        go_ret
        exact ⟨rfl, below_step (((Below.refl _ _).alloc (Nat.le_refl _) _).alloc (by simp) _) hb1⟩
      · have e : inB n 1 6 = false := by simp [inB]; omega
        rw [e]; clear e
        go_enter Tryz.func292, Tryz.ntmps292
        go_wp2_with fail
        refine (HRD.out _).mono ?_
        rw [HD.out, cond_true]
        rintro e w1 ⟨rfl, hb1⟩
        go_wp2
        go_ret
        exact ⟨ret_bool (decide_eq_false (by omega)), below_step (((Below.refl _ _).alloc (Nat.le_refl _) _).alloc (by simp) _) hb1⟩
    · have e : inB n 1 6 = false := by simp [inB]; omega
      rw [e]; clear e
      go_enter Tryz.func292, Tryz.ntmps292
      go_wp2_with fail
      refine (HRD.out _).mono ?_
      rw [HD.out, cond_true]
      rintro e w1 ⟨rfl, hb1⟩
      go_wp2
      go_ret
      exact ⟨rfl, below_step (((Below.refl _ _).alloc (Nat.le_refl _) _).alloc (by simp) _) hb1⟩
end Go.Proofs.YthccipaobeapbabGreatDoor

/-
  impl: the rules of times and routes.
-/
namespace Go.Proofs.YthccipaobeapbabGreatDoor
open Go.RowKit
attribute [local go_sem] Later.cell Later.frozen

theorem StrsAt.cell {w : World} {g off n cap : Nat} {ws : List ByteArray} (h : StrsAt w (.slice (some ⟨g, off, none⟩) n cap) ws) (i : Nat) (hi : i < ws.length) : w.cell? ⟨g, off + i, none⟩ = some (.string (wat ws i)) := by
  obtain ⟨g', off', cap', e, _, _, hc⟩ := h
  cases e
  exact hc i _ (wat_get hi)

def rdN (x : ByteArray) : Int := bif decB x then (numV x : Int) else 0
def tmF (ws : List ByteArray) : Int := bif decide (ws.length = 2) then rdN (wat ws 0) else 0
def tmY (ws : List ByteArray) : Int := bif decide (ws.length = 2) then rdN (wat ws 1) else 0
def tmO (ws : List ByteArray) : Bool := decide (ws.length = 2) && (decB (wat ws 0) && decB (wat ws 1))
theorem timeB_tm (ws : List ByteArray) : timeB ws = (tmO ws && (decide (tmF ws ≤ tmY ws) && decide (tmY ws ≤ 10000))) := by
  unfold timeB tmO tmF tmY rdN
  by_cases h : ws.length = 2
  · have e1 : decide (((numV (wat ws 0) : Nat) : Int) ≤ ((numV (wat ws 1) : Nat) : Int)) = decide (numV (wat ws 0) ≤ numV (wat ws 1)) := by rw [Bool.eq_iff_iff]; simp
    have e2 : decide (((numV (wat ws 1) : Nat) : Int) ≤ 10000) = decide (numV (wat ws 1) ≤ 10000) := by rw [Bool.eq_iff_iff]; simp; omega
    simp only [h, decide_true, Bool.true_and, cond_true]
    cases decB (wat ws 0) <;> cases decB (wat ws 1) <;> simp only [cond_true, cond_false, e1, e2, Bool.true_and, Bool.false_and, Bool.and_false]
  · simp [h]

set_option maxHeartbeats 1600000 in
theorem readTimes_any (s : ByteArray) (w : World) (hs : s.size ≤ 1048576) :
    Calls Tryz.prog 166 #[.string s] w fun e w' => e = .returned (.tuple #[.int .i64 (tmF (cutW s)), .int .i64 (tmY (cutW s)), .bool (tmO (cutW s))]) ∧ Below w.heap.size w w' := by
  have HRD : Hid (∀ (x : ByteArray) (wx : World), x.size ≤ s.size → Calls Tryz.prog 167 #[.string x] wx fun e w' => e = .returned (.tuple #[.int .i64 (rdN x), .bool (decB x)]) ∧ Below wx.heap.size wx w') := fun x wx hx => readDecimal_any x wx (by unfold maxLen; omega)
  have HSZ : Hid (∀ i, i < (cutW s).length → (wat (cutW s) i).size ≤ s.size) := fun i hi => wat_size hi
  have HWD : Hid (∀ wx : World, Calls Tryz.prog 191 #[.string s] wx fun e w' => ∃ v, e = .returned v ∧ StrsAt w' v (cutW s) ∧ Below wx.heap.size wx w') := fun wx => wordsOf_any s wx hs
  generalize cutW s = ws at *
  go_enter Tryz.func166, Tryz.ntmps166
  go_wp2_with fail
  refine (HWD.out _).mono ?_
  rintro e w1 ⟨v, rfl, hst, hb1⟩
  have HST : Hid (StrsAt w1 v ws) := hst
  obtain ⟨g, off, cap, rfl, hlc, hcm, -⟩ := hst
  have HB1 : Hid (Below w.heap.size w w1) := hb1
  clear hb1
  by_cases h2 : ws.length = 2
  · have h2' : (((ws.length : Nat) : Int) == 2) = true := by simp [h2]
    have h2i : (1 : Int) < ((ws.length : Nat) : Int) := by omega
    have h2j : 1 < ws.length := by omega
    have h2k : 0 < ws.length := by omega
    have c0 : w1.cell? ⟨g, off + 0, none⟩ = some (.string (wat ws 0)) := HST.out.cell 0 (by omega)
    have c1 : w1.cell? ⟨g, off + 1, none⟩ = some (.string (wat ws 1)) := HST.out.cell 1 (by omega)
    simp only [Nat.add_zero] at c0
    have HF : Hid (tmF ws = rdN (wat ws 0)) := by show tmF ws = _; unfold tmF; simp [h2]
    have HY : Hid (tmY ws = rdN (wat ws 1)) := by show tmY ws = _; unfold tmY; simp [h2]
    have HO : Hid (tmO ws = (decB (wat ws 0) && decB (wat ws 1))) := by show tmO ws = _; unfold tmO; simp [h2]
    have Z0 : Hid ((wat ws 0).size ≤ s.size) := HSZ.out 0 (by omega)
    have Z1 : Hid ((wat ws 1).size ≤ s.size) := HSZ.out 1 (by omega)
    clear HST HSZ h2 HWD
    generalize wat ws 0 = x0 at *
    generalize wat ws 1 = x1 at *
    go_wp2_with fail
    refine (HRD.out x0 _ Z0.out).mono ?_
    rintro e w2 ⟨rfl, hb2⟩
    have d1 := cell_keep hb2 (Nat.le_refl _) c1
    go_wp2_with fail
    refine (HRD.out x1 _ Z1.out).mono ?_
    rintro e w3 ⟨rfl, hb3⟩
    have HB : Hid (Below w.heap.size w w3) := below_step (below_step HB1.out hb2) hb3
    clear hb2 hb3 HRD c0 c1 d1
    generalize decB x0 = b0 at *
    generalize decB x1 = b1 at *
    cases b0
    · go_wp2
      exact bodyPost_ret (v := .tuple #[.int .i64 (rdN x0), .int .i64 (rdN x1), .bool false]) (by simp [results, Tryz.results166, go_sem]) rfl ⟨by rw [HF.out, HY.out, HO.out]; rfl, HB.out⟩
    · cases b1
      · go_wp2
        exact bodyPost_ret (v := .tuple #[.int .i64 (rdN x0), .int .i64 (rdN x1), .bool false]) (by simp [results, Tryz.results166, go_sem]) rfl ⟨by rw [HF.out, HY.out, HO.out]; rfl, HB.out⟩
      · go_wp2
        exact bodyPost_ret (v := .tuple #[.int .i64 (rdN x0), .int .i64 (rdN x1), .bool true]) (by simp [results, Tryz.results166, go_sem]) rfl ⟨by rw [HF.out, HY.out, HO.out]; rfl, HB.out⟩
  · have h2' : (((ws.length : Nat) : Int) == 2) = false := by simp; omega
    have HF : Hid (tmF ws = 0) := by show tmF ws = _; unfold tmF; simp [h2]
    have HY : Hid (tmY ws = 0) := by show tmY ws = _; unfold tmY; simp [h2]
    have HO : Hid (tmO ws = false) := by show tmO ws = _; unfold tmO; simp [h2]
    go_wp2
    exact bodyPost_ret (v := .tuple #[.int .i64 (0), .int .i64 (0), .bool false]) (by simp [results, Tryz.results166, go_sem]) rfl ⟨by rw [HF.out, HY.out, HO.out], HB1.out⟩

set_option maxHeartbeats 1600000 in
theorem timeRule_any (vk vp : Value) (s : ByteArray) (w : World) (hs : s.size ≤ 1048576) :
    Calls Tryz.prog 291 #[.agg #[], .agg #[vk, vp], .string s] w fun e w' => e = .returned (.bool (timeB (cutW s))) ∧ Below w.heap.size w w' := by
  have HRT := fun wx => readTimes_any s wx hs
  have HE : Hid (timeB (cutW s) = (tmO (cutW s) && (decide (tmF (cutW s) ≤ tmY (cutW s)) && decide (tmY (cutW s) ≤ 10000)))) := timeB_tm _
  have HR : Hid (∀ wx : World, Calls Tryz.prog 166 #[.string s] wx fun e w' => e = .returned (.tuple #[.int .i64 (tmF (cutW s)), .int .i64 (tmY (cutW s)), .bool (tmO (cutW s))]) ∧ Below wx.heap.size wx w') := HRT
  clear HRT
  generalize timeB (cutW s) = r at *
  generalize tmO (cutW s) = o at *
  generalize tmF (cutW s) = n0 at *
  generalize tmY (cutW s) = n1 at *
  go_enter Tryz.func291, Tryz.ntmps291
  go_wp2_with fail
  refine (HR.out _).mono ?_
  rintro e w1 ⟨rfl, hb1⟩
  have HB : Hid (Below w.heap.size w w1) := below_step (((Below.refl _ _).alloc (Nat.le_refl _) _).alloc (by simp) _) hb1
  clear hb1
  cases o
  · go_wp2
    go_ret
    exact ⟨ret_bool (by rw [HE.out]; rfl), HB.out⟩
  · by_cases h3 : n0 ≤ n1
    · by_cases h4 : n1 ≤ 10000
      · go_wp2
        go_ret
        exact ⟨ret_bool (by rw [HE.out]; simp; omega), HB.out⟩
      · go_wp2
        go_ret
        exact ⟨ret_bool (by rw [HE.out]; simp; omega), HB.out⟩
    · go_wp2
      go_ret
      exact ⟨ret_bool (by rw [HE.out]; simp; omega), HB.out⟩

theorem routeB_no {ps : List Tri} {ws : List ByteArray} (h : inB ws.length 2 8 = false) : routeB ps ws = false := by unfold routeB; rw [h]; rfl
theorem routeB_yes {ps : List Tri} {ws : List ByteArray} (h : inB ws.length 2 8 = true) : routeB ps ws = allB ws.length (stepB ps ws) := by unfold routeB; rw [h]; rfl

set_option maxHeartbeats 1600000 in
theorem routeFits_any (vk vp v : Value) (ps : List Tri) (ws : List ByteArray) (w : World) (hp : TrisAt w vp ps) (hst0 : StrsAt w v ws) :
    Calls Tryz.prog 294 #[.agg #[vk, vp], v] w fun e w' => e = .returned (.bool (routeB ps ws)) ∧ Below w.heap.size w w' := by
  have HHP : Hid (∀ (x : ByteArray) (wx : World), Below w.heap.size w wx → Calls Tryz.prog 178 #[vp, .string x, .func (.func 158) #[] #[]] wx fun e w' => e = .returned (.tuple #[.int .i64 (plc ps x : Nat), .bool (hasB ps x)]) ∧ Below wx.heap.size wx w') := fun x wx hx => placePoint_any vp ps x wx (hp.keep hx)
  clear hp
  have HB1 : Hid (Below w.heap.size w (w.alloc (.cells #[vk, vp] 25))) := (Below.refl _ _).alloc (Nat.le_refl _) _
  have hst := hst0.keep HB1.out
  have HST : Hid (StrsAt (w.alloc (.cells #[vk, vp] 25)) v ws) := hst
  clear hst0
  obtain ⟨g, off, cap, rfl, hlc, hcm, -⟩ := hst
  have p0 : (w.alloc (.cells #[vk, vp] 25)).cell? ⟨w.heap.size, 0, none⟩ = some vk := by simp [go_sem]
  have p1 : (w.alloc (.cells #[vk, vp] 25)).cell? ⟨w.heap.size, 1, none⟩ = some vp := by simp [go_sem]
  unfold maxLen at hcm
  go_enter Tryz.func294, Tryz.ntmps294
  by_cases h1 : (ws.length : Int) < 2
  · have HE : Hid (routeB ps ws = false) := routeB_no (by simp [inB]; omega)
    go_wp2
    go_ret
    exact ⟨ret_bool HE.out.symm, HB1.out⟩
  by_cases h2 : (8 : Int) < (ws.length : Int)
  · have HE : Hid (routeB ps ws = false) := routeB_no (by simp [inB]; omega)
    go_wp2
    go_ret
    exact ⟨ret_bool HE.out.symm, HB1.out⟩
  have HE : Hid (routeB ps ws = allB ws.length (stepB ps ws)) := routeB_yes (by simp [inB]; omega)
  have Q0 : Hid ((w.alloc (.cells #[vk, vp] 25)).cell? ⟨w.heap.size, 0, none⟩ = some vk ∧ (w.alloc (.cells #[vk, vp] 25)).cell? ⟨w.heap.size, 1, none⟩ = some vp) := ⟨p0, p1⟩
  clear p0 p1
  go_wp2_with fail
  generalize (w.alloc (.cells #[vk, vp] 25)) = w1 at *
  go_loopw [5, 6, 19] (fun _ _ i wr => ∃ k : Nat, k ≤ ws.length ∧ i = .int .i64 k ∧ Below w1.heap.size w1 wr ∧ Hid (∀ j, j < k → stepB ps ws j = true)) (fun _ _ i _ => ws.length - (intOf i).toNat)
  case atStart => exact ⟨0, Nat.zero_le _, rfl, Below.refl _ _, fun j hj => absurd hj (Nat.not_lt_zero _)⟩
  case round =>
    obtain ⟨k, hk, rfl, hb, HA⟩ := hrel
    by_cases hlt : k < ws.length
    · have c0 : wr.cell? ⟨g, off + k, none⟩ = some (.string (wat ws k)) := (HST.out.keep hb).cell k hlt
      have p0 := cell_keep hb (Nat.le_refl _) Q0.out.1
      have p1 := cell_keep hb (Nat.le_refl _) Q0.out.2
      have hk0 : (0 : Int) ≤ (k : Int) := by omega
      have hk1 : (k : Int) < (ws.length : Int) := by omega
      cases hh : hasB ps (wat ws k)
      · have HH : Hid (hasB ps (wat ws k) = false) := hh
        clear hh
        go_wp2_with fail
        refine (HHP.out (wat ws k) _ (below_step HB1.out hb)).mono ?_
        rw [HH.out]
        rintro e w2 ⟨rfl, hb2⟩
        go_wp2
        go_ret
        exact ⟨ret_bool (by rw [HE.out]; exact (allB_false hlt (by unfold stepB; rw [HH.out]; rfl)).symm), below_step (below_step HB1.out hb) hb2⟩
      · have HH : Hid (hasB ps (wat ws k) = true) := hh
        clear hh
        by_cases hz : 0 < k
        · have c1 : wr.cell? ⟨g, off + (k - 1), none⟩ = some (.string (wat ws (k - 1))) := (HST.out.keep hb).cell (k - 1) (by omega)
          by_cases hx : wat ws (k - 1) = wat ws k
          · have hq : ((wat ws (k - 1)).toList == (wat ws k).toList) = true := str_eq hx
            have HX : Hid (stepB ps ws k = false) := by show stepB ps ws k = false; unfold stepB; simp [hx, hz]
            clear hx
            go_wp2_with fail
            refine (HHP.out (wat ws k) _ (below_step HB1.out hb)).mono ?_
            rw [HH.out]
            rintro e w2 ⟨rfl, hb2⟩
            have c2 := cell_keep hb2 (Nat.le_refl _) c1
            go_wp2
            go_ret
            exact ⟨ret_bool (by rw [HE.out]; exact (allB_false hlt HX.out).symm), below_step (below_step HB1.out hb) hb2⟩
          · have hq : ((wat ws (k - 1)).toList == (wat ws k).toList) = false := str_ne hx
            have HX : Hid (stepB ps ws k = true) := by show stepB ps ws k = true; unfold stepB; rw [HH.out]; simp [hx]
            clear hx
            go_wp2_with fail
            refine (HHP.out (wat ws k) _ (below_step HB1.out hb)).mono ?_
            rw [HH.out]
            rintro e w2 ⟨rfl, hb2⟩
            have c2 := cell_keep hb2 (Nat.le_refl _) c1
            go_wp2
            exact ⟨⟨k + 1, by omega, by go_num, below_step hb hb2, fun j hj => if e : j = k then by rw [e]; exact HX.out else HA.out j (by omega)⟩, by simp [intOf]; omega⟩
        · have HX : Hid (stepB ps ws k = true) := by show stepB ps ws k = true; unfold stepB; rw [HH.out]; simp [hz]
          go_wp2_with fail
          refine (HHP.out (wat ws k) _ (below_step HB1.out hb)).mono ?_
          rw [HH.out]
          rintro e w2 ⟨rfl, hb2⟩
          go_wp2
          exact ⟨⟨k + 1, by omega, by go_num, below_step hb hb2, fun j hj => if e : j = k then by rw [e]; exact HX.out else HA.out j (by omega)⟩, by simp [intOf]; omega⟩
    · go_wp2
      go_ret
      exact ⟨ret_bool (by rw [HE.out]; exact (allB_true fun j hj => HA.out j (by omega)).symm), below_step HB1.out hb⟩
set_option maxHeartbeats 1600000 in
theorem routeRule_any (vk vp : Value) (ps : List Tri) (s : ByteArray) (w : World) (hs : s.size ≤ 1048576) (hp : TrisAt w vp ps) :
    Calls Tryz.prog 293 #[.agg #[], .agg #[vk, vp], .string s] w fun e w' => e = .returned (.bool (routeB ps (cutW s))) ∧ Below w.heap.size w w' := by
  have HWD : Hid (∀ wx : World, Calls Tryz.prog 191 #[.string s] wx fun e w' => ∃ v, e = .returned v ∧ StrsAt w' v (cutW s) ∧ Below wx.heap.size wx w') := fun wx => wordsOf_any s wx hs
  generalize cutW s = ws at *
  have HRF : Hid (∀ (v : Value) (wx : World), Below w.heap.size w wx → StrsAt wx v ws → Calls Tryz.prog 294 #[.agg #[vk, vp], v] wx fun e w' => e = .returned (.bool (routeB ps ws)) ∧ Below wx.heap.size wx w') := fun v wx hx hv => routeFits_any vk vp v ps ws wx (hp.keep hx) hv
  clear hp
  have HAL : Hid (Below w.heap.size w ((w.alloc (.cells #[] 293)).alloc (.cells #[vk, vp] 25))) := ((Below.refl _ _).alloc (Nat.le_refl _) _).alloc (by simp) _
  have p0 : ((w.alloc (.cells #[] 293)).alloc (.cells #[vk, vp] 25)).cell? ⟨w.heap.size + 1, 0, none⟩ = some vk := by simp [go_sem]
  have p1 : ((w.alloc (.cells #[] 293)).alloc (.cells #[vk, vp] 25)).cell? ⟨w.heap.size + 1, 1, none⟩ = some vp := by simp [go_sem]
  go_enter Tryz.func293, Tryz.ntmps293
  go_wp2_with fail
  generalize ((w.alloc (.cells #[] 293)).alloc (.cells #[vk, vp] 25)) = w1 at *
  refine wp_region_noPanic ?_
  refine wp_region_held_drew (S := fun w' => w'.cell? ⟨w.heap.size + 1, 0, none⟩ = some vk ∧ w'.cell? ⟨w.heap.size + 1, 1, none⟩ = some vp) (by kernel_rfl) ?_ (fun hHeld => ?_)
  · exact ⟨cell_keep (Below.refl _ _).drew (Nat.le_refl _) p0, cell_keep (Below.refl _ _).drew (Nat.le_refl _) p1⟩
  have HBW : Hid (Below w.heap.size w w1.drew) := below_step HAL.out (Below.refl _ _).drew
  have Q0 : Hid (∀ wx : World, Below w1.heap.size w1 wx → wx.cell? ⟨w.heap.size + 1, 0, none⟩ = some vk ∧ wx.cell? ⟨w.heap.size + 1, 1, none⟩ = some vp) := fun wx hx => ⟨cell_keep hx (Nat.le_refl _) p0, cell_keep hx (Nat.le_refl _) p1⟩
  have HB1 : Hid (Below w1.heap.size w1 w1.drew) := (Below.refl _ _).drew
  clear p0 p1
  refine wpAnyH_take (i := 0) (v := ?_) rfl (by kernel_rfl) (by kernel_rfl) (by kernel_rfl) (fun _ _ _ h => h) (Or.inl ⟨by rfl, ?_⟩) (by assumption) ?_
  rotate_left
  · intro w hSw; (try dsimp only at hSw); go_simp; try with_reducible rfl
  simp only [Act.put, List.setIfInBounds_toArray, List.set_cons_zero, List.set_cons_succ, List.getElem_toArray, List.getElem_cons_succ, List.getElem_cons_zero]
  refine wpAnyH_take (i := 1) (v := ?_) rfl (by kernel_rfl) (by kernel_rfl) (by kernel_rfl) (fun _ _ _ h => h) (Or.inl ⟨by rfl, ?_⟩) (by assumption) ?_
  rotate_left
  · intro w hSw; (try dsimp only at hSw); go_simp; try with_reducible rfl
  simp only [Act.put, List.setIfInBounds_toArray, List.set_cons_zero, List.set_cons_succ, List.getElem_toArray, List.getElem_cons_succ, List.getElem_cons_zero]
  clear hHeld
  refine wpAnyH_ready (rs := [2]) (by kernel_rfl) (by simp) ?_
  refine AllReadyH.cons rfl (fun K hK => ?_) AllReadyH.nil
  go_simp
  refine (HWD.out _).mono ?_
  rintro e w2 ⟨v, rfl, hst, hb2⟩
  have HB2 : Hid (Below w1.heap.size w1 w2) := below_step HB1.out hb2
  have HC2 : Hid (Below w.heap.size w w2) := below_step HBW.out hb2
  have HST : Hid (StrsAt w2 v ws) := hst
  obtain ⟨g, off, cap, rfl, hlc, hcm, -⟩ := hst
  refine hK.out _ _ (Q0.out _ HB2.out) (fun _ => ?_)
  clear hK K hb2 HBW HB1
  refine wpAnyH_ready (rs := [3]) (by kernel_rfl) (by simp) ?_
  refine AllReadyH.cons rfl (fun K hK => ?_) AllReadyH.nil
  go_simp
  refine (HRF.out _ _ HC2.out HST.out).mono ?_
  rintro e w3 ⟨rfl, hb3⟩
  have HB3 : Hid (Below w1.heap.size w1 w3) := below_step HB2.out hb3
  have HC3 : Hid (Below w.heap.size w w3) := below_step HC2.out hb3
  have hHeld := Q0.out _ HB3.out
  refine hK.out _ _ hHeld (fun _ => ?_)
  clear hK K
  refine wpAnyH_take (i := 4) (v := ?_) rfl (by kernel_rfl) (by kernel_rfl) (by kernel_rfl) (fun _ _ _ h => h) (Or.inl ⟨by rfl, ?_⟩) (by assumption) ?_
  rotate_left
  · intro w hSw; (try dsimp only at hSw); go_simp; try with_reducible rfl
  simp only [Act.put, List.setIfInBounds_toArray, List.set_cons_zero, List.set_cons_succ, List.getElem_toArray, List.getElem_cons_succ, List.getElem_cons_zero]
  clear hHeld
  refine wpAnyH_done (by kernel_rfl) ?_ _
  refine NoPanic.normal ?_
  go_wp2
  go_ret
  exact ⟨rfl, HC3.out⟩
end Go.Proofs.YthccipaobeapbabGreatDoor
