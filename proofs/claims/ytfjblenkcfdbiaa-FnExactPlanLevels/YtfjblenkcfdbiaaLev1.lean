
/-
  Levels: the program's and the specification's are the same.
-/
import Derived.Test.YtfjblenkcfdbiaaLev00
namespace Go.Proofs.Ytfjblenkcfdbiaa.Lv
open Go.RowKit
set_option linter.unusedSimpArgs false
set_option linter.unusedVariables false

theorem levels_none {n l : Int} (h : ¬ (1 ≤ n ∧ n ≤ 40 ∧ 1 ≤ l ∧ l ≤ 6)) : levelsL n l = [] := by
  unfold levelsL; rw [decide_eq_false h]; rfl
/-- The level of step k. -/
def lvl (N : Nat) (l : Int) (k : Nat) : Int := minI l (minI (k : Int) ((N : Int) - 1 - (k : Int)))
theorem levels_some {N : Nat} {l : Int} (h : 1 ≤ (N : Int) ∧ (N : Int) ≤ 40 ∧ 1 ≤ l ∧ l ≤ 6) : levelsL N l = (List.range N).map (lvl N l) := by
  unfold levelsL; rw [decide_eq_true h]; rfl
/-- The levels of the first k steps. -/
def lvls (N : Nat) (l : Int) (k : Nat) : List Int := (List.range k).map (lvl N l)
theorem lvls_len (N : Nat) (l : Int) (k : Nat) : (lvls N l k).length = k := by simp [lvls]
theorem lvls_succ (N : Nat) (l : Int) (k : Nat) : lvls N l (k + 1) = lvls N l k ++ [lvl N l k] := by
  unfold lvls; rw [List.range_succ, List.map_append]; rfl
theorem grown_below {w w1 w2 : World} {r : Option Nat} (h : Below w.heap.size w w1) (hg : w1.grownBy w2 r) (hr : ∀ k, r = some k → w.heap.size ≤ k) : Below w.heap.size w w2 := h.grown hg h.size hr

set_option maxRecDepth 100000 in
set_option maxHeartbeats 6400000 in
theorem planLevels_any (n l : Int) (w : World) :
    Calls Try.prog 33 #[.int .i64 n, .int .i64 l] w fun e w' => ∃ v, e = .returned v ∧ INew w' w.heap.size v (levelsL n l) ∧ Below w.heap.size w w' := by
  obtain ⟨i0, hi0, hz0, hz1, hz2⟩ := info_parts infoInt
  by_cases hall : 1 ≤ n ∧ n ≤ 40 ∧ 1 ≤ l ∧ l ≤ 6
  · obtain ⟨N, rfl⟩ : ∃ N : Nat, n = N := ⟨n.toNat, by omega⟩
    have HE : Hid (levelsL N l = lvls N l N) := levels_some hall
    obtain ⟨h1, h2, h3, h4⟩ := hall
    go_enter Try.func33, Try.ntmps33
    go_wp2
    go_loopw [5, 6, 22] (fun v _ i wr => ∃ k : Nat, k ≤ N ∧ i = .int .i64 k ∧ (∃ a c, v = .slice a k c) ∧ Hid (INew wr w.heap.size v (lvls N l k) ∧ Below w.heap.size w wr)) (fun _ _ i _ => N - (intOf i).toNat)
    case atStart => exact ⟨0, Nat.zero_le _, rfl, ⟨_, _, rfl⟩, ⟨rfl, .inl ⟨rfl, rfl⟩⟩, Below.refl _ _⟩
    case round =>
      obtain ⟨k, hk, rfl, ⟨a, c, rfl⟩, HI⟩ := hrel
      by_cases hlt : k < N
      · have hid := HI.out.1
        unfold INew at hid
        rw [lvls_len] at hid
        have hsz := HI.out.2.size
        rcases (show ((k : Int) < l ∧ (N : Int) - 1 - (k : Int) < (k : Int)) ∨ ((k : Int) < l ∧ ¬ (N : Int) - 1 - (k : Int) < (k : Int)) ∨ (¬ (k : Int) < l ∧ (N : Int) - 1 - (k : Int) < l) ∨ (¬ (k : Int) < l ∧ ¬ (N : Int) - 1 - (k : Int) < l) by omega) with ⟨c1, c2⟩ | ⟨c1, c2⟩ | ⟨c1, c2⟩ | ⟨c1, c2⟩
        · have HX : Hid (lvl N l k = (N : Int) - 1 - (k : Int)) := by show _ = _; unfold lvl minI; split <;> (try split) <;> omega
          go_wp2_with (at_builtin; (refine wpList_append_any _ rfl _ _ 64 rfl w.heap.size 3 i0 _ 1 8 Try.underlying64 hi0 hz0 hz1 hz2 rfl (by decide) _ k _ rfl (own_keep hid ((Below.refl _ _).alloc (Nat.le_refl _) _)) _ 1 1 [.int .i64 ((N : Int) - 1 - (k : Int))] rfl (.inr ⟨_, rfl, World.news_of_block (heap_newF wr (.cells #[.int .i64 ((N : Int) - 1 - (k : Int))] 3))⟩) rfl (fun u hu => by simp at hu; subst hu; rfl) (by unfold maxLen; omega) (by omega) (by simp; omega) ?_); intro vq wx hown hgrow hat)
          have HN : Hid (INew wx w.heap.size vq (lvls N l (k + 1)) ∧ Below w.heap.size w wx) := by
            refine ⟨?_, grown_below (HI.out.2.trans (((Below.refl _ _).alloc (Nat.le_refl _) _).mono HI.out.2.size)) hgrow (fun q hq => own_ge hid q hq)⟩
            rw [lvls_succ, HX.out]
            exact INew.snoc (by rw [lvls_len]; exact hown)
          obtain ⟨qa, qc, rfl⟩ := own_slice hown
          exact ⟨⟨k + 1, by omega, by go_num, ⟨_, _, rfl⟩, HN⟩, by simp [intOf]; omega⟩
        · have HX : Hid (lvl N l k = (k : Int)) := by show _ = _; unfold lvl minI; split <;> (try split) <;> omega
          go_wp2_with (at_builtin; (refine wpList_append_any _ rfl _ _ 64 rfl w.heap.size 3 i0 _ 1 8 Try.underlying64 hi0 hz0 hz1 hz2 rfl (by decide) _ k _ rfl (own_keep hid ((Below.refl _ _).alloc (Nat.le_refl _) _)) _ 1 1 [.int .i64 ((k : Int))] rfl (.inr ⟨_, rfl, World.news_of_block (heap_newF wr (.cells #[.int .i64 ((k : Int))] 3))⟩) rfl (fun u hu => by simp at hu; subst hu; rfl) (by unfold maxLen; omega) (by omega) (by simp; omega) ?_); intro vq wx hown hgrow hat)
          have HN : Hid (INew wx w.heap.size vq (lvls N l (k + 1)) ∧ Below w.heap.size w wx) := by
            refine ⟨?_, grown_below (HI.out.2.trans (((Below.refl _ _).alloc (Nat.le_refl _) _).mono HI.out.2.size)) hgrow (fun q hq => own_ge hid q hq)⟩
            rw [lvls_succ, HX.out]
            exact INew.snoc (by rw [lvls_len]; exact hown)
          obtain ⟨qa, qc, rfl⟩ := own_slice hown
          exact ⟨⟨k + 1, by omega, by go_num, ⟨_, _, rfl⟩, HN⟩, by simp [intOf]; omega⟩
        · have HX : Hid (lvl N l k = (N : Int) - 1 - (k : Int)) := by show _ = _; unfold lvl minI; split <;> (try split) <;> omega
          go_wp2_with (at_builtin; (refine wpList_append_any _ rfl _ _ 64 rfl w.heap.size 3 i0 _ 1 8 Try.underlying64 hi0 hz0 hz1 hz2 rfl (by decide) _ k _ rfl (own_keep hid ((Below.refl _ _).alloc (Nat.le_refl _) _)) _ 1 1 [.int .i64 ((N : Int) - 1 - (k : Int))] rfl (.inr ⟨_, rfl, World.news_of_block (heap_newF wr (.cells #[.int .i64 ((N : Int) - 1 - (k : Int))] 3))⟩) rfl (fun u hu => by simp at hu; subst hu; rfl) (by unfold maxLen; omega) (by omega) (by simp; omega) ?_); intro vq wx hown hgrow hat)
          have HN : Hid (INew wx w.heap.size vq (lvls N l (k + 1)) ∧ Below w.heap.size w wx) := by
            refine ⟨?_, grown_below (HI.out.2.trans (((Below.refl _ _).alloc (Nat.le_refl _) _).mono HI.out.2.size)) hgrow (fun q hq => own_ge hid q hq)⟩
            rw [lvls_succ, HX.out]
            exact INew.snoc (by rw [lvls_len]; exact hown)
          obtain ⟨qa, qc, rfl⟩ := own_slice hown
          exact ⟨⟨k + 1, by omega, by go_num, ⟨_, _, rfl⟩, HN⟩, by simp [intOf]; omega⟩
        · have HX : Hid (lvl N l k = l) := by show _ = _; unfold lvl minI; split <;> (try split) <;> omega
          go_wp2_with (at_builtin; (refine wpList_append_any _ rfl _ _ 64 rfl w.heap.size 3 i0 _ 1 8 Try.underlying64 hi0 hz0 hz1 hz2 rfl (by decide) _ k _ rfl (own_keep hid ((Below.refl _ _).alloc (Nat.le_refl _) _)) _ 1 1 [.int .i64 (l)] rfl (.inr ⟨_, rfl, World.news_of_block (heap_newF wr (.cells #[.int .i64 (l)] 3))⟩) rfl (fun u hu => by simp at hu; subst hu; rfl) (by unfold maxLen; omega) (by omega) (by simp; omega) ?_); intro vq wx hown hgrow hat)
          have HN : Hid (INew wx w.heap.size vq (lvls N l (k + 1)) ∧ Below w.heap.size w wx) := by
            refine ⟨?_, grown_below (HI.out.2.trans (((Below.refl _ _).alloc (Nat.le_refl _) _).mono HI.out.2.size)) hgrow (fun q hq => own_ge hid q hq)⟩
            rw [lvls_succ, HX.out]
            exact INew.snoc (by rw [lvls_len]; exact hown)
          obtain ⟨qa, qc, rfl⟩ := own_slice hown
          exact ⟨⟨k + 1, by omega, by go_num, ⟨_, _, rfl⟩, HN⟩, by simp [intOf]; omega⟩
      · have HF : Hid (k = N) := by show k = N; omega
        go_wp2
        go_ret
        exact ⟨.slice a k c, rfl, by rw [HE.out]; have h := HI.out.1; rw [show lvls N l k = lvls N l N by rw [HF.out]] at h; exact h, HI.out.2⟩
  · have HE : Hid (levelsL n l = []) := levels_none hall
    rcases (show n < 1 ∨ (¬ n < 1 ∧ 40 < n) ∨ (¬ n < 1 ∧ ¬ 40 < n ∧ l < 1) ∨ (¬ n < 1 ∧ ¬ 40 < n ∧ ¬ l < 1 ∧ 6 < l) by omega) with h1 | ⟨h1, h2⟩ | ⟨h1, h2, h3⟩ | ⟨h1, h2, h3, h4⟩
    · go_enter Try.func33, Try.ntmps33
      go_wp2
      go_ret
      exact ⟨_, rfl, by rw [HE.out]; exact ⟨rfl, .inl ⟨rfl, rfl⟩⟩, Below.refl _ _⟩
    · go_enter Try.func33, Try.ntmps33
      go_wp2
      go_ret
      exact ⟨_, rfl, by rw [HE.out]; exact ⟨rfl, .inl ⟨rfl, rfl⟩⟩, Below.refl _ _⟩
    · go_enter Try.func33, Try.ntmps33
      go_wp2
      go_ret
      exact ⟨_, rfl, by rw [HE.out]; exact ⟨rfl, .inl ⟨rfl, rfl⟩⟩, Below.refl _ _⟩
    · go_enter Try.func33, Try.ntmps33
      go_wp2
      go_ret
      exact ⟨_, rfl, by rw [HE.out]; exact ⟨rfl, .inl ⟨rfl, rfl⟩⟩, Below.refl _ _⟩
set_option maxHeartbeats 400000 in
theorem l7Min_any (a b : Int) (w : World) :
    Calls Try.prog 68 #[.int .i64 a, .int .i64 b] w fun e w' => e = .returned (.int .i64 (minI a b)) ∧ w' = w := by
  by_cases h : a < b
  · have e : minI a b = a := by unfold minI; rw [if_pos h]
    rw [e]; clear e
    go_enter Try.func68, Try.ntmps68
    go_wp2
    go_ret
    exact ⟨rfl, rfl⟩
  · have e : minI a b = b := by unfold minI; rw [if_neg h]
    rw [e]; clear e
    go_enter Try.func68, Try.ntmps68
    go_wp2
    go_ret
    exact ⟨rfl, rfl⟩
theorem in_true {n lo hi : Int} (h : lo ≤ n ∧ n ≤ hi) : inB n lo hi = true := by simp [inB, h.1, h.2]
theorem in_false {n lo hi : Int} (h : ¬ (lo ≤ n ∧ n ≤ hi)) : inB n lo hi = false := by simp [inB]; omega
set_option maxRecDepth 100000 in
set_option maxHeartbeats 6400000 in
theorem specLevels_any (n l : Int) (w : World) :
    Calls Try.prog 32 #[.int .i64 n, .int .i64 l] w fun e w' => ∃ v, e = .returned v ∧ INew w' w.heap.size v (levelsL n l) ∧ Below w.heap.size w w' := by
  obtain ⟨i0, hi0, hz0, hz1, hz2⟩ := info_parts infoInt
  have I0 : Hid (INew (w.alloc (.cells #[] 3)) w.heap.size (.slice (some ⟨w.heap.size, 0, none⟩) 0 0) []) := ⟨rfl, .inr ⟨w.heap.size, 0, #[], rfl, Nat.le_refl _, heap_newF w _, Nat.le_refl _, Nat.zero_le _, rfl, rfl⟩⟩
  have B0 : Hid (Below w.heap.size w (w.alloc (.cells #[] 3))) := (Below.refl _ _).alloc (Nat.le_refl _) _
  have hs0 : w.heap.size < (w.alloc (.cells #[] 3)).heap.size := by simp
  by_cases hall : 1 ≤ n ∧ n ≤ 40 ∧ 1 ≤ l ∧ l ≤ 6
  · obtain ⟨N, rfl⟩ : ∃ N : Nat, n = N := ⟨n.toNat, by omega⟩
    have HE : Hid (levelsL N l = lvls N l N) := levels_some hall
    obtain ⟨h1, h2, h3, h4⟩ := hall
    have HL1 : Hid (∀ wx : World, Calls Try.prog 48 #[.int .i64 (N : Int), .int .i64 1, .int .i64 40] wx fun e w' => e = .returned (.bool true) ∧ w' = wx) := fun wx => by
      have h := l1In_any (N : Int) 1 40 wx
      rw [in_true ⟨h1, h2⟩] at h
      exact h
    have HL2 : Hid (∀ wx : World, Calls Try.prog 48 #[.int .i64 l, .int .i64 1, .int .i64 6] wx fun e w' => e = .returned (.bool true) ∧ w' = wx) := fun wx => by
      have h := l1In_any l 1 6 wx
      rw [in_true ⟨h3, h4⟩] at h
      exact h
    go_enter Try.func32, Try.ntmps32
    go_wp2_with fail
    generalize (w.alloc (.cells #[] 3)) = w1 at *
    refine (HL1.out w1).mono ?_
    rintro e w2 ⟨rfl, rfl⟩
    go_wp2_with fail
    refine (HL2.out _).mono ?_
    rintro e w3 ⟨rfl, rfl⟩
    go_wp2
    go_loopw [5, 6] (fun v i wr => ∃ k : Nat, k ≤ N ∧ i = .int .i64 k ∧ (∃ a c, v = .slice a k c) ∧ Hid (INew wr w.heap.size v (lvls N l k) ∧ Below w.heap.size w wr)) (fun _ i _ => N - (intOf i).toNat)
    case atStart => exact ⟨0, Nat.zero_le _, rfl, ⟨_, _, rfl⟩, I0.out, B0.out⟩
    case round =>
      obtain ⟨k, hk, rfl, ⟨a, c, rfl⟩, HI⟩ := hrel
      by_cases hlt : k < N
      · have hid := HI.out.1
        unfold INew at hid
        rw [lvls_len] at hid
        have hsz := HI.out.2.size
        go_wp2_with fail
        refine (l7Min_any _ _ _).mono ?_
        rintro e w2 ⟨rfl, hw2⟩
        rw [hw2]
        clear hw2 w2
        go_wp2_with fail
        refine (l7Min_any _ _ _).mono ?_
        rintro e w3 ⟨rfl, hw3⟩
        rw [hw3]
        clear hw3 w3
        obtain ⟨x, hx⟩ : ∃ x, x = lvl N l k := ⟨_, rfl⟩
        have HX : Hid (lvl N l k = x) := hx.symm
        have hx2 : minI l (minI (k : Int) ((N : Int) - 1 - (k : Int))) = x := hx.symm
        rw [hx2]
        clear hx hx2
        go_wp2_with (at_builtin; (refine wpList_append_any _ rfl _ _ 64 rfl w.heap.size 3 i0 _ 1 8 Try.underlying64 hi0 hz0 hz1 hz2 rfl (by decide) _ k _ rfl (own_keep hid ((Below.refl _ _).alloc (Nat.le_refl _) _)) _ 1 1 [.int .i64 (x)] rfl (.inr ⟨_, rfl, World.news_of_block (heap_newF wr (.cells #[.int .i64 (x)] 3))⟩) rfl (fun u hu => by simp at hu; subst hu; rfl) (by unfold maxLen; omega) (by omega) (by simp; omega) ?_); intro vq wx hown hgrow hat)
        have HN : Hid (INew wx w.heap.size vq (lvls N l (k + 1)) ∧ Below w.heap.size w wx) := by
          refine ⟨?_, grown_below (HI.out.2.trans (((Below.refl _ _).alloc (Nat.le_refl _) _).mono HI.out.2.size)) hgrow (fun q hq => own_ge hid q hq)⟩
          rw [lvls_succ, HX.out]
          exact INew.snoc (by rw [lvls_len]; exact hown)
        obtain ⟨qa, qc, rfl⟩ := own_slice hown
        exact ⟨⟨k + 1, by omega, by go_num, ⟨_, _, rfl⟩, HN⟩, by simp [intOf]; omega⟩
      · have HF : Hid (k = N) := by show k = N; omega
        go_wp2
        go_ret
        exact ⟨.slice a k c, rfl, by rw [HE.out]; have h := HI.out.1; rw [show lvls N l k = lvls N l N by rw [HF.out]] at h; exact h, HI.out.2⟩
  · have HE : Hid (levelsL n l = []) := levels_none hall
    by_cases hn : 1 ≤ n ∧ n ≤ 40
    · have hl : ¬ (1 ≤ l ∧ l ≤ 6) := by omega
      have HL1 : Hid (∀ wx : World, Calls Try.prog 48 #[.int .i64 n, .int .i64 1, .int .i64 40] wx fun e w' => e = .returned (.bool true) ∧ w' = wx) := fun wx => by
        have h := l1In_any n 1 40 wx
        rw [in_true hn] at h
        exact h
      have HL2 : Hid (∀ wx : World, Calls Try.prog 48 #[.int .i64 l, .int .i64 1, .int .i64 6] wx fun e w' => e = .returned (.bool false) ∧ w' = wx) := fun wx => by
        have h := l1In_any l 1 6 wx
        rw [in_false hl] at h
        exact h
      go_enter Try.func32, Try.ntmps32
      go_wp2_with fail
      generalize (w.alloc (.cells #[] 3)) = w1 at *
      refine (HL1.out w1).mono ?_
      rintro e w2 ⟨rfl, rfl⟩
      go_wp2_with fail
      refine (HL2.out _).mono ?_
      rintro e w3 ⟨rfl, rfl⟩
      go_wp2
      go_ret
      exact ⟨_, rfl, by rw [HE.out]; exact I0.out, B0.out⟩
    · have HL1 : Hid (∀ wx : World, Calls Try.prog 48 #[.int .i64 n, .int .i64 1, .int .i64 40] wx fun e w' => e = .returned (.bool false) ∧ w' = wx) := fun wx => by
        have h := l1In_any n 1 40 wx
        rw [in_false hn] at h
        exact h
      go_enter Try.func32, Try.ntmps32
      go_wp2_with fail
      generalize (w.alloc (.cells #[] 3)) = w1 at *
      refine (HL1.out w1).mono ?_
      rintro e w2 ⟨rfl, rfl⟩
      go_wp2
      go_ret
      exact ⟨_, rfl, by rw [HE.out]; exact I0.out, B0.out⟩
end Go.Proofs.Ytfjblenkcfdbiaa.Lv
