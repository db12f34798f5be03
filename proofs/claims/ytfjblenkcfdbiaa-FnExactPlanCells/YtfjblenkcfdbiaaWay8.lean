
/-
  A leg, turned round if need be: the specification's.
-/
import Derived.Test.YtfjblenkcfdbiaaWay7
namespace Go.Proofs.Ytfjblenkcfdbiaa
open Go.RowKit
set_option linter.unusedSimpArgs false
set_option linter.unusedVariables false

theorem rev_take (l : List Cel) (k : Nat) (h : k < l.length) : l.reverse.take (k + 1) = l.reverse.take k ++ [tat l (l.length - 1 - k)] := by
  have hl : k < l.reverse.length := by rw [List.length_reverse]; exact h
  rw [List.take_succ_eq_append_getElem hl]
  congr 2
  rw [List.getElem_reverse]
  simp [tat, show l.length - 1 - k < l.length by omega]
theorem legS_yes {a b : Cel} (h : lesser b a = true) : legS a b = (legU b a).reverse := by unfold legS; rw [h]; rfl
theorem legS_no {a b : Cel} (h : lesser b a = false) : legS a b = legU a b := by unfold legS; rw [h]; rfl
set_option maxRecDepth 100000 in
set_option maxHeartbeats 12800000 in
theorem l7LegR_any (a b : Cel) (w : World) (ha : a.In) (hb : b.In) (hl : lesser b a = true) :
    Calls Try.prog 60 #[cv a, cv b] w fun e w' => ∃ u, e = .returned u ∧ CNew w' w.heap.size u (legU b a).reverse ∧ Below w.heap.size w w' := by
  obtain ⟨i0, hi0, hz0, hz1, hz2⟩ := info_parts infoCell
  have HB : Hid (Below w.heap.size w (((w.alloc (.cells #[.int .i64 a.x, .int .i64 a.y] 97)).alloc (.cells #[.int .i64 b.x, .int .i64 b.y] 97)).alloc (.cells #[] 97))) := (((Below.refl _ _).alloc (Nat.le_refl _) _).alloc (by simp) _).alloc (by simp; omega) _
  have HR : Hid ((((w.alloc (.cells #[.int .i64 a.x, .int .i64 a.y] 97)).alloc (.cells #[.int .i64 b.x, .int .i64 b.y] 97)).alloc (.cells #[] 97)).heap[w.heap.size + 2]? = some (.cells #[] 97 (0, 0))) := by
    have h := heap_newW ((w.alloc (.cells #[.int .i64 a.x, .int .i64 a.y] 97)).alloc (.cells #[.int .i64 b.x, .int .i64 b.y] 97)) (.cells #[] 97)
    rw [show ((w.alloc (.cells #[.int .i64 a.x, .int .i64 a.y] 97)).alloc (.cells #[.int .i64 b.x, .int .i64 b.y] 97)).heap.size = w.heap.size + 2 by simp] at h
    exact h
  have c0 : (((w.alloc (.cells #[.int .i64 a.x, .int .i64 a.y] 97)).alloc (.cells #[.int .i64 b.x, .int .i64 b.y] 97)).alloc (.cells #[] 97)).cell? ⟨w.heap.size, 0, none⟩ = some (.int .i64 a.x) := by simp [go_sem]
  have c1 : (((w.alloc (.cells #[.int .i64 a.x, .int .i64 a.y] 97)).alloc (.cells #[.int .i64 b.x, .int .i64 b.y] 97)).alloc (.cells #[] 97)).cell? ⟨w.heap.size, 1, none⟩ = some (.int .i64 a.y) := by simp [go_sem]
  have c2 : (((w.alloc (.cells #[.int .i64 a.x, .int .i64 a.y] 97)).alloc (.cells #[.int .i64 b.x, .int .i64 b.y] 97)).alloc (.cells #[] 97)).cell? ⟨w.heap.size + 1, 0, none⟩ = some (.int .i64 b.x) := by simp [go_sem]
  have c3 : (((w.alloc (.cells #[.int .i64 a.x, .int .i64 a.y] 97)).alloc (.cells #[.int .i64 b.x, .int .i64 b.y] 97)).alloc (.cells #[] 97)).cell? ⟨w.heap.size + 1, 1, none⟩ = some (.int .i64 b.y) := by simp [go_sem]
  have HRC : Hid (∀ wx : World, Calls Try.prog 60 #[cv b, cv a] wx fun e w' => ∃ u, e = .returned u ∧ CNew w' wx.heap.size u (legU b a) ∧ Below wx.heap.size wx w') := fun wx => l7LegU_any b a wx hb ha (lesser_swap hl)
  have hlen : (legU b a).length ≤ 16 := by rw [legU_len]; have := legN_le hb ha; omega
  have hpos : 0 < (legU b a).length := by rw [legU_len]; omega
  have hlc := hl
  clear hl
  generalize legU b a = l at *
  rcases (show (b.x < a.x) ∨ (¬ b.x < a.x ∧ b.x = a.x ∧ b.y < a.y) by unfold lesser at hlc; split at hlc <;> simp at hlc <;> omega) with x1 | ⟨x1, x2, x3⟩
  · go_enter Try.func60, Try.ntmps60
    go_wp2_with fail
    generalize (((w.alloc (.cells #[.int .i64 a.x, .int .i64 a.y] 97)).alloc (.cells #[.int .i64 b.x, .int .i64 b.y] 97)).alloc (.cells #[] 97)) = w1 at *
    refine (HRC.out _).mono ?_
    rintro e w2 ⟨u, rfl, hu, hb2⟩
    obtain ⟨aL, cL, rfl⟩ := ownC_slice hu
    obtain ⟨BL, rfl⟩ : ∃ BL, aL = some ⟨BL, 0, none⟩ := by
      rcases hu.2 with ⟨h, h0⟩ | ⟨g, cap, cur, h, _⟩
      · omega
      · injection h with h1 h2 h3
        exact ⟨g, h1⟩
    have hBL : w1.heap.size ≤ BL := ownC_ge hu BL rfl
    have hBL2 : BL < w2.heap.size := ownC_lt hu BL rfl
    have hR1 := lt_of_block HR.out
    have HI0 : Hid (CNew w2 (w.heap.size + 2) (.slice (some ⟨w.heap.size + 2, 0, none⟩) 0 0) (l.reverse.take 0) ∧ Below w.heap.size w w2 ∧ CAt w2 (.slice (some ⟨BL, 0, none⟩) l.length cL) l ∧ (BL < w2.heap.size ∧ w.heap.size + 3 ≤ w2.heap.size) ∧ ∀ q, (Value.slice (some ⟨w.heap.size + 2, 0, none⟩) 0 0).ownBlock = some q → q ≠ BL) := by
      refine ⟨⟨rfl, .inr ⟨w.heap.size + 2, 0, #[], rfl, Nat.le_refl _, below_block hb2 HR.out, Nat.le_refl _, Nat.zero_le _, rfl, rfl⟩⟩, below_step HB.out hb2, hu.at, ⟨hBL2, by omega⟩, fun q hq => ?_⟩
      simp only [Value.ownBlock, Option.some.injEq] at hq
      omega
    clear hu hb2 c0 c1 c2 c3 hBL hBL2 hR1
    go_wp2_with fail
    go_loopw [5, 7] (fun v i wr => ∃ (k : Nat) (z : Int), k ≤ l.length ∧ z = (l.length : Int) - 1 - (k : Int) ∧ i = .int .i64 z ∧ (∃ a' c', v = .slice a' k c') ∧ Hid (CNew wr (w.heap.size + 2) v (l.reverse.take k) ∧ Below w.heap.size w wr ∧ CAt wr (.slice (some ⟨BL, 0, none⟩) l.length cL) l ∧ (BL < wr.heap.size ∧ w.heap.size + 3 ≤ wr.heap.size) ∧ ∀ q, v.ownBlock = some q → q ≠ BL)) (fun _ i _ => (intOf i + 1).toNat)
    case atStart => exact ⟨0, _, Nat.zero_le _, by simp, rfl, ⟨_, _, rfl⟩, HI0⟩
    case round =>
      clear HI0
      obtain ⟨k, z, hk, hz, rfl, ⟨a', c', rfl⟩, HI⟩ := hrel
      by_cases hlt : k < l.length
      · obtain ⟨j, rfl⟩ : ∃ j : Nat, z = j := ⟨l.length - 1 - k, by omega⟩
        have hj : j = l.length - 1 - k := by omega
        have HJ : Hid (l.reverse.take (k + 1) = l.reverse.take k ++ [tat l j]) := by show _ = _; rw [hj]; exact rev_take l k hlt
        obtain ⟨d0, d1⟩ := HI.out.2.2.1.cells j (by omega)
        have hj0 : (0 : Int) ≤ (j : Int) := by omega
        have hj1 : (j : Int) < (l.length : Int) := by omega
        have HTL : Hid ((l.reverse.take k).length = k) := by show _ = _; rw [List.length_take, List.length_reverse]; omega
        have hid := HI.out.1
        unfold CNew at hid
        rw [HTL.out] at hid
        have hsz := HI.out.2.1.size
        have hbw : w.heap.size + 3 ≤ wr.heap.size := HI.out.2.2.2.1.2
        have HJJ : Hid (j + 1 + k = l.length) := by show _ = _; omega
        clear hj hz
        generalize tat l j = tc at *
        go_wp2_with (at_builtin; refine wpList_append_any _ rfl _ _ 55 rfl (w.heap.size + 2) 97 i0 _ 2 16 Try.underlying55 hi0 hz0 hz1 hz2 rfl (by decide) _ k _ rfl (ownC_keep hid ((Below.refl _ _).alloc (Nat.le_refl _) _)) _ 1 1 [.int .i64 tc.x, .int .i64 tc.y] rfl (.inr ⟨_, rfl, World.news_of_block (heap_newW wr (.cells #[.int .i64 tc.x, .int .i64 tc.y] 97))⟩) rfl (fun u hu => by simp at hu; rcases hu with rfl | rfl <;> rfl) (by unfold maxLen; omega) (by omega) (by simp; omega) ?_; intro vq wx hown hgrow hat)
        have hal : Below wr.heap.size wr (wr.alloc (.cells #[.int .i64 tc.x, .int .i64 tc.y] 97)) := (Below.refl _ _).alloc (Nat.le_refl _) _
        have HN : Hid (CNew wx (w.heap.size + 2) vq (l.reverse.take (k + 1)) ∧ Below w.heap.size w wx ∧ CAt wx (.slice (some ⟨BL, 0, none⟩) l.length cL) l ∧ (BL < wx.heap.size ∧ w.heap.size + 3 ≤ wx.heap.size) ∧ ∀ q, vq.ownBlock = some q → q ≠ BL) := by
          have hz3 := hgrow.size
          rw [World.size_alloc] at hz3
          have hBB := HI.out.2.2.2.1.1
          have hne : some BL ≠ (Value.slice a' k c').ownBlock := fun e => HI.out.2.2.2.2 BL e.symm rfl
          refine ⟨?_, (below_step HI.out.2.1 hal).grown hgrow (below_step HI.out.2.1 hal).size (fun q hq => by have := ownC_ge hid q hq; omega), ?_, ⟨by omega, by omega⟩, fun q hq => ?_⟩
          · rw [HJ.out]
            exact CNew.snoc HTL.out hown
          · obtain ⟨a9, c9, h1, h2, h3, h4⟩ := HI.out.2.2.1.keep hal
            refine ⟨a9, c9, h1, h2, h3, fun i t ht => ?_⟩
            obtain ⟨g9, e9, e0, e1⟩ := h4 i t ht
            have hgg : g9 = BL := by rw [e9] at h1; injection h1 with h1; injection h1 with h1; injection h1 with h1; exact h1.symm
            subst hgg
            have hblk := hgrow.block g9 (lt_of_cell e0) hne
            exact ⟨g9, e9, (World.cell?_of_block hblk).trans e0, (World.cell?_of_block hblk).trans e1⟩
          · rcases hat with e | e
            · rw [e] at hq
              exact HI.out.2.2.2.2 q hq
            · rw [e, World.size_alloc] at hq
              injection hq with hq
              omega
        obtain ⟨qa, qc, rfl⟩ := ownC_slice hown
        exact ⟨⟨k + 1, (j : Int) - 1, by omega, by have := HJJ.out; omega, by first | rfl | go_num, ⟨_, _, rfl⟩, HN⟩, by first | (simp [intOf]; done) | (simp [intOf]; omega)⟩
      · have HF : Hid (l.reverse.take k = l.reverse) := List.take_of_length_le (by rw [List.length_reverse]; omega)
        have hz2 : z < 0 := by omega
        go_wp2
        go_ret
        exact ⟨.slice a' k c', rfl, by have h := HI.out.1; rw [HF.out] at h; exact ownC_mono h (by omega), HI.out.2.1⟩
  · have hq : (b.x == a.x) = true := by simp [x2]
    clear x2
    go_enter Try.func60, Try.ntmps60
    go_wp2_with fail
    generalize (((w.alloc (.cells #[.int .i64 a.x, .int .i64 a.y] 97)).alloc (.cells #[.int .i64 b.x, .int .i64 b.y] 97)).alloc (.cells #[] 97)) = w1 at *
    refine (HRC.out _).mono ?_
    rintro e w2 ⟨u, rfl, hu, hb2⟩
    obtain ⟨aL, cL, rfl⟩ := ownC_slice hu
    obtain ⟨BL, rfl⟩ : ∃ BL, aL = some ⟨BL, 0, none⟩ := by
      rcases hu.2 with ⟨h, h0⟩ | ⟨g, cap, cur, h, _⟩
      · omega
      · injection h with h1 h2 h3
        exact ⟨g, h1⟩
    have hBL : w1.heap.size ≤ BL := ownC_ge hu BL rfl
    have hBL2 : BL < w2.heap.size := ownC_lt hu BL rfl
    have hR1 := lt_of_block HR.out
    have HI0 : Hid (CNew w2 (w.heap.size + 2) (.slice (some ⟨w.heap.size + 2, 0, none⟩) 0 0) (l.reverse.take 0) ∧ Below w.heap.size w w2 ∧ CAt w2 (.slice (some ⟨BL, 0, none⟩) l.length cL) l ∧ (BL < w2.heap.size ∧ w.heap.size + 3 ≤ w2.heap.size) ∧ ∀ q, (Value.slice (some ⟨w.heap.size + 2, 0, none⟩) 0 0).ownBlock = some q → q ≠ BL) := by
      refine ⟨⟨rfl, .inr ⟨w.heap.size + 2, 0, #[], rfl, Nat.le_refl _, below_block hb2 HR.out, Nat.le_refl _, Nat.zero_le _, rfl, rfl⟩⟩, below_step HB.out hb2, hu.at, ⟨hBL2, by omega⟩, fun q hq => ?_⟩
      simp only [Value.ownBlock, Option.some.injEq] at hq
      omega
    clear hu hb2 c0 c1 c2 c3 hBL hBL2 hR1
    go_wp2_with fail
    go_loopw [5, 7] (fun v i wr => ∃ (k : Nat) (z : Int), k ≤ l.length ∧ z = (l.length : Int) - 1 - (k : Int) ∧ i = .int .i64 z ∧ (∃ a' c', v = .slice a' k c') ∧ Hid (CNew wr (w.heap.size + 2) v (l.reverse.take k) ∧ Below w.heap.size w wr ∧ CAt wr (.slice (some ⟨BL, 0, none⟩) l.length cL) l ∧ (BL < wr.heap.size ∧ w.heap.size + 3 ≤ wr.heap.size) ∧ ∀ q, v.ownBlock = some q → q ≠ BL)) (fun _ i _ => (intOf i + 1).toNat)
    case atStart => exact ⟨0, _, Nat.zero_le _, by simp, rfl, ⟨_, _, rfl⟩, HI0⟩
    case round =>
      clear HI0
      obtain ⟨k, z, hk, hz, rfl, ⟨a', c', rfl⟩, HI⟩ := hrel
      by_cases hlt : k < l.length
      · obtain ⟨j, rfl⟩ : ∃ j : Nat, z = j := ⟨l.length - 1 - k, by omega⟩
        have hj : j = l.length - 1 - k := by omega
        have HJ : Hid (l.reverse.take (k + 1) = l.reverse.take k ++ [tat l j]) := by show _ = _; rw [hj]; exact rev_take l k hlt
        obtain ⟨d0, d1⟩ := HI.out.2.2.1.cells j (by omega)
        have hj0 : (0 : Int) ≤ (j : Int) := by omega
        have hj1 : (j : Int) < (l.length : Int) := by omega
        have HTL : Hid ((l.reverse.take k).length = k) := by show _ = _; rw [List.length_take, List.length_reverse]; omega
        have hid := HI.out.1
        unfold CNew at hid
        rw [HTL.out] at hid
        have hsz := HI.out.2.1.size
        have hbw : w.heap.size + 3 ≤ wr.heap.size := HI.out.2.2.2.1.2
        have HJJ : Hid (j + 1 + k = l.length) := by show _ = _; omega
        clear hj hz
        generalize tat l j = tc at *
        go_wp2_with (at_builtin; refine wpList_append_any _ rfl _ _ 55 rfl (w.heap.size + 2) 97 i0 _ 2 16 Try.underlying55 hi0 hz0 hz1 hz2 rfl (by decide) _ k _ rfl (ownC_keep hid ((Below.refl _ _).alloc (Nat.le_refl _) _)) _ 1 1 [.int .i64 tc.x, .int .i64 tc.y] rfl (.inr ⟨_, rfl, World.news_of_block (heap_newW wr (.cells #[.int .i64 tc.x, .int .i64 tc.y] 97))⟩) rfl (fun u hu => by simp at hu; rcases hu with rfl | rfl <;> rfl) (by unfold maxLen; omega) (by omega) (by simp; omega) ?_; intro vq wx hown hgrow hat)
        have hal : Below wr.heap.size wr (wr.alloc (.cells #[.int .i64 tc.x, .int .i64 tc.y] 97)) := (Below.refl _ _).alloc (Nat.le_refl _) _
        have HN : Hid (CNew wx (w.heap.size + 2) vq (l.reverse.take (k + 1)) ∧ Below w.heap.size w wx ∧ CAt wx (.slice (some ⟨BL, 0, none⟩) l.length cL) l ∧ (BL < wx.heap.size ∧ w.heap.size + 3 ≤ wx.heap.size) ∧ ∀ q, vq.ownBlock = some q → q ≠ BL) := by
          have hz3 := hgrow.size
          rw [World.size_alloc] at hz3
          have hBB := HI.out.2.2.2.1.1
          have hne : some BL ≠ (Value.slice a' k c').ownBlock := fun e => HI.out.2.2.2.2 BL e.symm rfl
          refine ⟨?_, (below_step HI.out.2.1 hal).grown hgrow (below_step HI.out.2.1 hal).size (fun q hq => by have := ownC_ge hid q hq; omega), ?_, ⟨by omega, by omega⟩, fun q hq => ?_⟩
          · rw [HJ.out]
            exact CNew.snoc HTL.out hown
          · obtain ⟨a9, c9, h1, h2, h3, h4⟩ := HI.out.2.2.1.keep hal
            refine ⟨a9, c9, h1, h2, h3, fun i t ht => ?_⟩
            obtain ⟨g9, e9, e0, e1⟩ := h4 i t ht
            have hgg : g9 = BL := by rw [e9] at h1; injection h1 with h1; injection h1 with h1; injection h1 with h1; exact h1.symm
            subst hgg
            have hblk := hgrow.block g9 (lt_of_cell e0) hne
            exact ⟨g9, e9, (World.cell?_of_block hblk).trans e0, (World.cell?_of_block hblk).trans e1⟩
          · rcases hat with e | e
            · rw [e] at hq
              exact HI.out.2.2.2.2 q hq
            · rw [e, World.size_alloc] at hq
              injection hq with hq
              omega
        obtain ⟨qa, qc, rfl⟩ := ownC_slice hown
        exact ⟨⟨k + 1, (j : Int) - 1, by omega, by have := HJJ.out; omega, by first | rfl | go_num, ⟨_, _, rfl⟩, HN⟩, by first | (simp [intOf]; done) | (simp [intOf]; omega)⟩
      · have HF : Hid (l.reverse.take k = l.reverse) := List.take_of_length_le (by rw [List.length_reverse]; omega)
        have hz2 : z < 0 := by omega
        go_wp2
        go_ret
        exact ⟨.slice a' k c', rfl, by have h := HI.out.1; rw [HF.out] at h; exact ownC_mono h (by omega), HI.out.2.1⟩
end Go.Proofs.Ytfjblenkcfdbiaa
