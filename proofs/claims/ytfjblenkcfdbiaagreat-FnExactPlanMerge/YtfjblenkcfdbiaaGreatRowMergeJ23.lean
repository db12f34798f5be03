/-
  For the proof of merge_holds: part 23 (Dec2, FitsS, FitsS2, Book7).
-/
import Derived.Test.YtfjblenkcfdbiaaGreatRowMergeJ22
/-
  The specification's l2Number.
-/
namespace Go.Proofs.YtfjblenkcfdbiaaGreat
open Go.RowKit

set_option maxHeartbeats 1600000 in
theorem l2Number_any (s : ByteArray) (w : World) (hs : s.size ≤ maxLen) :
    Calls Tryz.prog 97 #[.string s] w fun e w' => e = .returned (.int .i64 (bif decB s then (numTo s s.size : Int) else -1)) ∧ w' = w := by
  unfold maxLen at hs
  cases hin : inB s.size 1 7
  · have e : decB s = false := by simp [decB, hin]
    have HI : Hid (inB s.size 1 7 = false) := hin
    rw [e]; clear e hin
    go_enter Tryz.func97, Tryz.ntmps97
    go_wp2_with fail
    refine (l1In_any _ _ _ _).mono ?_
    rw [HI.out]
    rintro e w' ⟨rfl, rfl⟩
    go_wp2
    go_ret
    exact ⟨rfl, rfl⟩
  have HI : Hid (inB s.size 1 7 = true) := hin
  have hz : 0 < s.size := by simp [inB] at hin; omega
  have hsz7 : s.size ≤ 7 := by simp [inB] at hin; omega
  cases hl : leadB s
  · have e : decB s = digitsB s := by simp [decB, hin, hl]
    rw [e]; clear e hin
    by_cases h3 : (1 : Int) < s.size
    · have h4 : (((s[0].toNat : Nat) : Int) == 48) = false := by
        rw [u8_zero]
        have : 1 < s.size := by omega
        simp only [leadB, this, decide_true, Bool.true_and, getD_byte hz] at hl
        exact hl
      clear hl
      go_enter Tryz.func97, Tryz.ntmps97
      go_wp2_with fail
      refine (l1In_any _ _ _ _).mono ?_
      rw [HI.out]
      rintro e w' ⟨rfl, rfl⟩
      go_wp2
      go_loop [3, 4] (fun n i => ∃ k : Nat, k ≤ s.size ∧ i = .int .i64 k ∧ n = .int .i64 (numTo s k : Int) ∧ Hid (∀ j (hj : j < s.size), j < k → digB (s[j].toNat) = true)) (fun _ i => s.size - (intOf i).toNat)
      case atStart => exact ⟨0, Nat.zero_le _, rfl, rfl, fun j _ hj => absurd hj (Nat.not_lt_zero _)⟩
      case round =>
        obtain ⟨k, hk, rfl, rfl, HA⟩ := hrel
        by_cases hlt : k < s.size
        · have hn7 : numTo s k < 10000000 := numTo_seven k hsz7 hk HA.out
          have HS : Hid (numTo s (k + 1) = numTo s k * 10 + (s[k].toNat - 48)) := by
            show numTo s (k + 1) = _
            rw [numTo, getD_byte hlt]
          have hc8 : s[k].toNat < 256 := s[k].toNat_lt
          generalize numTo s k = nk at hn7 HS
          by_cases h5 : ((s[k].toNat : Nat) : Int) < 48
          · go_wp2
            go_ret
            have e : digitsB s = false := digitsB_false hlt (by simp [digB]; omega)
            rw [e]
            exact ⟨rfl, rfl⟩
          · by_cases h6 : (57 : Int) < ((s[k].toNat : Nat) : Int)
            · go_wp2
              go_ret
              have e : digitsB s = false := digitsB_false hlt (by simp [digB]; omega)
              rw [e]
              exact ⟨rfl, rfl⟩
            · go_wp2
              go_round
              case rel => exact ⟨k + 1, by omega, by go_num, by rw [HS.out]; congr 1; omega, fun j hj hjk => if h : j = k then by subst h; rw [digB_iff]; omega else HA.out j hj (by omega)⟩
              case measure => simp [intOf]; omega
        · have HT : Hid (digitsB s = true) := digitsB_true fun j hj => HA.out j hj (by omega)
          have HK : Hid (k = s.size) := by show k = s.size; omega
          go_wp2
          go_ret
          rw [HT.out, HK.out]
          exact ⟨rfl, rfl⟩
    · clear hl
      go_enter Tryz.func97, Tryz.ntmps97
      go_wp2_with fail
      refine (l1In_any _ _ _ _).mono ?_
      rw [HI.out]
      rintro e w' ⟨rfl, rfl⟩
      go_wp2
      go_loop [3, 4] (fun n i => ∃ k : Nat, k ≤ s.size ∧ i = .int .i64 k ∧ n = .int .i64 (numTo s k : Int) ∧ Hid (∀ j (hj : j < s.size), j < k → digB (s[j].toNat) = true)) (fun _ i => s.size - (intOf i).toNat)
      case atStart => exact ⟨0, Nat.zero_le _, rfl, rfl, fun j _ hj => absurd hj (Nat.not_lt_zero _)⟩
      case round =>
        obtain ⟨k, hk, rfl, rfl, HA⟩ := hrel
        by_cases hlt : k < s.size
        · have hn7 : numTo s k < 10000000 := numTo_seven k hsz7 hk HA.out
          have HS : Hid (numTo s (k + 1) = numTo s k * 10 + (s[k].toNat - 48)) := by
            show numTo s (k + 1) = _
            rw [numTo, getD_byte hlt]
          have hc8 : s[k].toNat < 256 := s[k].toNat_lt
          generalize numTo s k = nk at hn7 HS
          by_cases h5 : ((s[k].toNat : Nat) : Int) < 48
          · go_wp2
            go_ret
            have e : digitsB s = false := digitsB_false hlt (by simp [digB]; omega)
            rw [e]
            exact ⟨rfl, rfl⟩
          · by_cases h6 : (57 : Int) < ((s[k].toNat : Nat) : Int)
            · go_wp2
              go_ret
              have e : digitsB s = false := digitsB_false hlt (by simp [digB]; omega)
              rw [e]
              exact ⟨rfl, rfl⟩
            · go_wp2
              go_round
              case rel => exact ⟨k + 1, by omega, by go_num, by rw [HS.out]; congr 1; omega, fun j hj hjk => if h : j = k then by subst h; rw [digB_iff]; omega else HA.out j hj (by omega)⟩
              case measure => simp [intOf]; omega
        · have HT : Hid (digitsB s = true) := digitsB_true fun j hj => HA.out j hj (by omega)
          have HK : Hid (k = s.size) := by show k = s.size; omega
          go_wp2
          go_ret
          rw [HT.out, HK.out]
          exact ⟨rfl, rfl⟩
  · have e : decB s = false := by simp [decB, hl]
    have h3 : (1 : Int) < s.size := by
      have : 1 < s.size := by simp [leadB] at hl; exact hl.1
      omega
    have h4 : (((s[0].toNat : Nat) : Int) == 48) = true := by
      rw [u8_zero]
      simp only [leadB, Bool.and_eq_true, getD_byte hz] at hl
      exact hl.2
    rw [e]; clear e hl hin
    go_enter Tryz.func97, Tryz.ntmps97
    go_wp2_with fail
    refine (l1In_any _ _ _ _).mono ?_
    rw [HI.out]
    rintro e w' ⟨rfl, rfl⟩
    go_wp2
    go_ret
    exact ⟨rfl, rfl⟩
end Go.Proofs.YtfjblenkcfdbiaaGreat

/-
  The specification: where a kind or a point is; times, routes; what fits; a change that is ok.
-/
namespace Go.Proofs.YtfjblenkcfdbiaaGreat
open Go.RowKit
attribute [local go_sem] Later.cell Later.frozen

/-- Where it is; -1 if it is not there. -/
def atI (l : List Tri) (v : ByteArray) : Int := if memB l v = true then ((l.findIdx fun t => decide (t.s = v) : Nat) : Int) else -1
theorem atI_some {l : List Tri} {v : ByteArray} {k : Nat} (hk : k < l.length) (h : (at' l k).s = v) (hn : ∀ j, j < k → ¬ (at' l j).s = v) : atI l v = k := by
  unfold atI
  rw [if_pos (memB_true hk h)]
  have e : ∀ j (hj : j < l.length), at' l j = l[j] := fun j hj => by simp [at', hj]
  have : (l.findIdx fun t => decide (t.s = v)) = k := by
    rw [List.findIdx_eq hk]
    refine ⟨by rw [← e k hk]; simpa using h, fun j hj => by rw [← e j (by omega)]; simpa using hn j hj⟩
  rw [this]
theorem atI_none {l : List Tri} {v : ByteArray} (h : ∀ j, j < l.length → ¬ (at' l j).s = v) : atI l v = -1 := by
  unfold atI; rw [if_neg]; rw [memB_false h]; simp
theorem atI_has (l : List Tri) (v : ByteArray) : decide (0 ≤ atI l v) = memB l v := by
  unfold atI; cases memB l v <;> simp
theorem atI_no (l : List Tri) (v : ByteArray) : decide (atI l v < 0) = !memB l v := by
  unfold atI; cases memB l v <;> simp
theorem atI_ge (l : List Tri) (v : ByteArray) : -1 ≤ atI l v := by
  unfold atI; split <;> omega

set_option maxHeartbeats 800000 in
theorem l1Kind_any (vk vp : Value) (l : List Tri) (s : ByteArray) (w : World) (hv : TrisAt w vk l) :
    Calls Tryz.prog 95 #[.agg #[vk, vp], .string s] w fun e w' => e = .returned (.int .i64 (atI l s)) ∧ Below w.heap.size w w' := by
  obtain ⟨a, cap, rfl, hlc, hcm, hc⟩ := hv
  unfold maxLen at hcm
  have HC : Hid (∀ i t, l[i]? = some t → ∃ b off, a = some ⟨b, off, none⟩ ∧ TriAt w b (off + i * 3) t) := hc
  clear hc
  go_enter Tryz.func95, Tryz.ntmps95
  go_wp2
  go_loopw [5] (fun i wr => ∃ k : Nat, k ≤ l.length ∧ i = .int .i64 k ∧ Boxed w wr (.slice a l.length cap) vp ∧ Hid (∀ j, j < k → ¬ (at' l j).s = s)) (fun i _ => l.length - (intOf i).toNat)
  case atStart => exact ⟨0, Nat.zero_le _, rfl, Boxed.start _ _ _ _, fun j hj => absurd hj (Nat.not_lt_zero _)⟩
  case round =>
    obtain ⟨k, hk, rfl, hx, HA⟩ := hrel
    have x0 := hx.c0
    have x1 := hx.c1
    have HX : Hid (Boxed w wr (.slice a l.length cap) vp) := hx
    clear hx
    by_cases hlt : k < l.length
    · obtain ⟨b, off, rfl, hc⟩ := HC.out k _ (at_get hlt)
      obtain ⟨d0, d1, d2⟩ := hc.keep HX.out.below (Nat.le_refl _)
      have hk0 : (0 : Int) ≤ (k : Int) := by omega
      have hk1 : (k : Int) < (l.length : Int) := by omega
      by_cases hx : (at' l k).s = s
      · have h1 : ((at' l k).s.toList == s.toList) = true := str_eq hx
        have HH : Hid ((at' l k).s = s) := hx
        clear hx
        go_wp2
        go_ret
        exact ⟨ret_int (atI_some hlt HH.out HA.out).symm, HX.out.below⟩
      · have h1 : ((at' l k).s.toList == s.toList) = false := str_ne hx
        have HH : Hid (¬ (at' l k).s = s) := hx
        clear hx
        go_wp2
        exact ⟨⟨k + 1, by omega, by go_num, HX.out, fun j hj => if e : j = k then by rw [e]; exact HH.out else HA.out j (by omega)⟩, by simp [intOf]; omega⟩
    · go_wp2
      go_ret
      exact ⟨ret_int (atI_none fun j hj => HA.out j (by omega)).symm, HX.out.below⟩

set_option maxHeartbeats 800000 in
theorem l1Point_any (vk vp : Value) (l : List Tri) (s : ByteArray) (w : World) (hv : TrisAt w vp l) :
    Calls Tryz.prog 113 #[.agg #[vk, vp], .string s] w fun e w' => e = .returned (.int .i64 (atI l s)) ∧ Below w.heap.size w w' := by
  obtain ⟨a, cap, rfl, hlc, hcm, hc⟩ := hv
  unfold maxLen at hcm
  have HC : Hid (∀ i t, l[i]? = some t → ∃ b off, a = some ⟨b, off, none⟩ ∧ TriAt w b (off + i * 3) t) := hc
  clear hc
  go_enter Tryz.func113, Tryz.ntmps113
  go_wp2
  go_loopw [5] (fun i wr => ∃ k : Nat, k ≤ l.length ∧ i = .int .i64 k ∧ Boxed w wr vk (.slice a l.length cap) ∧ Hid (∀ j, j < k → ¬ (at' l j).s = s)) (fun i _ => l.length - (intOf i).toNat)
  case atStart => exact ⟨0, Nat.zero_le _, rfl, Boxed.start _ _ _ _, fun j hj => absurd hj (Nat.not_lt_zero _)⟩
  case round =>
    obtain ⟨k, hk, rfl, hx, HA⟩ := hrel
    have x0 := hx.c0
    have x1 := hx.c1
    have HX : Hid (Boxed w wr vk (.slice a l.length cap)) := hx
    clear hx
    by_cases hlt : k < l.length
    · obtain ⟨b, off, rfl, hc⟩ := HC.out k _ (at_get hlt)
      obtain ⟨d0, d1, d2⟩ := hc.keep HX.out.below (Nat.le_refl _)
      have hk0 : (0 : Int) ≤ (k : Int) := by omega
      have hk1 : (k : Int) < (l.length : Int) := by omega
      by_cases hx : (at' l k).s = s
      · have h1 : ((at' l k).s.toList == s.toList) = true := str_eq hx
        have HH : Hid ((at' l k).s = s) := hx
        clear hx
        go_wp2
        go_ret
        exact ⟨ret_int (atI_some hlt HH.out HA.out).symm, HX.out.below⟩
      · have h1 : ((at' l k).s.toList == s.toList) = false := str_ne hx
        have HH : Hid (¬ (at' l k).s = s) := hx
        clear hx
        go_wp2
        exact ⟨⟨k + 1, by omega, by go_num, HX.out, fun j hj => if e : j = k then by rw [e]; exact HH.out else HA.out j (by omega)⟩, by simp [intOf]; omega⟩
    · go_wp2
      go_ret
      exact ⟨ret_int (atI_none fun j hj => HA.out j (by omega)).symm, HX.out.below⟩


theorem numV_lt {x : ByteArray} (h : decB x = true) : numV x < 10000000 := by
  have h1 : inB x.size 1 7 = true := by simp only [decB, Bool.and_eq_true] at h; exact h.1
  have h2 : digitsB x = true := by simp only [decB, Bool.and_eq_true] at h; exact h.2.2
  have h3 : x.size ≤ 7 := by simp [inB] at h1; omega
  refine numTo_seven x.size h3 (Nat.le_refl _) fun j hj _ => ?_
  unfold digitsB at h2
  rw [List.all_eq_true] at h2
  exact h2 _ (by simp [ByteArray.getElem_eq_getElem_data])

/-- What l2Number answers. -/
def numI (x : ByteArray) : Int := bif decB x then (numV x : Int) else -1
theorem numI_yes {x : ByteArray} (h : decB x = true) : numI x = numV x := by unfold numI; rw [h]; rfl
theorem numI_no {x : ByteArray} (h : decB x = false) : numI x = -1 := by unfold numI; rw [h]; rfl
theorem time_num (x0 x1 : ByteArray) : (decB x0 && (decB x1 && (decide (numV x0 ≤ numV x1) && decide (numV x1 ≤ 10000)))) = (decide (0 ≤ numI x0) && inB (numI x1) (numI x0) 10000) := by
  cases h0 : decB x0
  · rw [numI_no h0]; rfl
  · rw [numI_yes h0]
    cases h1 : decB x1
    · rw [numI_no h1]; simp [inB]; omega
    · rw [numI_yes h1, Bool.eq_iff_iff]; simp [inB]; omega

set_option maxHeartbeats 1600000 in
theorem l2TimeOk_any (v : Value) (ws : List ByteArray) (w : World) (hv : StrsAt w v ws) (hz : ∀ x ∈ ws, x.size ≤ 1048576) :
    Calls Tryz.prog 96 #[v] w fun e w' => e = .returned (.bool (timeB ws)) ∧ Below w.heap.size w w' := by
  obtain ⟨g, off, cap, rfl, hlc, hcm, hc⟩ := hv
  unfold maxLen at hcm
  by_cases h2 : ws.length = 2
  · have h2' : (((ws.length : Nat) : Int) == 2) = true := by simp [h2]
    have h2i : (1 : Int) < ((ws.length : Nat) : Int) := by omega
    have h2j : 1 < ws.length := by omega
    have h2k : 0 < ws.length := by omega
    have c0 : w.cell? ⟨g, off, none⟩ = some (.string (wat ws 0)) := by simpa using hc 0 _ (wat_get h2k)
    have c1 : w.cell? ⟨g, off + 1, none⟩ = some (.string (wat ws 1)) := hc 1 _ (wat_get h2j)
    have hg : g < w.heap.size := lt_of_cell c0
    have Z0 : Hid ((wat ws 0).size ≤ 1048576) := hz _ (List.mem_of_getElem? (wat_get h2k))
    have Z1 : Hid ((wat ws 1).size ≤ 1048576) := hz _ (List.mem_of_getElem? (wat_get h2j))
    have HE : Hid (timeB ws = (decB (wat ws 0) && (decB (wat ws 1) && (decide (numV (wat ws 0) ≤ numV (wat ws 1)) && decide (numV (wat ws 1) ≤ 10000))))) := by show timeB ws = _; unfold timeB; simp [h2]
    clear hz hc h2
    generalize wat ws 0 = x0 at *
    generalize wat ws 1 = x1 at *
    have hne := Later.some w
    have GN : Hid (∀ (x : ByteArray), x.size ≤ 1048576 → ∀ y : Later w, Calls Tryz.prog 97 #[.string x] y.val fun e w'' => e = .returned (.int .i64 (numI x)) ∧ ∃ z : Later w, w'' = z.val) :=
      fun x hx y => Calls.later_same (l2Number_any x y.val (by unfold maxLen; omega))
    have GI : Hid (∀ (a b c : Int) (y : Later w), Calls Tryz.prog 57 #[.int .i64 a, .int .i64 b, .int .i64 c] y.val fun e w'' => e = .returned (.bool (inB a b c)) ∧ ∃ z : Later w, w'' = z.val) :=
      fun a b c y => Calls.later_same (l1In_any a b c y.val)
    have HE2 : Hid (timeB ws = (decide (0 ≤ numI x0) && inB (numI x1) (numI x0) 10000)) := by
      show timeB ws = _
      rw [HE.out]; exact time_num x0 x1
    clear HE
    by_cases hq : 0 ≤ numI x0
    · have hq' : decide (0 ≤ numI x0) = true := decide_eq_true hq
      have HE : Hid (timeB ws = inB (numI x1) (numI x0) 10000) := by show timeB ws = _; rw [HE2.out, hq']; rfl
      have z0 := Z0.out
      have z1 := Z1.out
      clear HE2 Z0 Z1
      go_enter Tryz.func96, Tryz.ntmps96
      go_wp2
      refine wp_region_later (by kernel_rfl) (by kernel_rfl) ?_
      repeat (go_big_quiet_step (first | (go_at_call 97; exact GN.out _ (by assumption) _) | (go_at_call 57; exact GI.out _ _ _ _)))
      refine wpQuiet_nil ?_
      rintro _ ⟨x, rfl⟩
      go_wp2
      go_ret
      exact ⟨ret_bool HE.out.symm, x.below⟩
    · have hq' : decide (0 ≤ numI x0) = false := decide_eq_false hq
      have HE : Hid (timeB ws = false) := by show timeB ws = _; rw [HE2.out, hq']; rfl
      have z0 := Z0.out
      clear HE2 Z0 Z1 hq
      go_enter Tryz.func96, Tryz.ntmps96
      go_wp2
      refine wp_region_later (by kernel_rfl) (by kernel_rfl) ?_
      repeat (go_big_quiet_step (first | (go_at_call 97; exact GN.out _ (by assumption) _)))
      refine wpQuiet_nil ?_
      rintro _ ⟨x, rfl⟩
      go_wp2
      go_ret
      exact ⟨ret_bool HE.out.symm, x.below⟩
  · have h2' : (((ws.length : Nat) : Int) == 2) = false := by simp; omega
    have e : timeB ws = false := by unfold timeB; simp [h2]
    have hne := Later.some w
    rw [e]; clear e hc hz
    go_enter Tryz.func96, Tryz.ntmps96
    go_wp2
    refine wp_region_later (by kernel_rfl) (by kernel_rfl) ?_
    repeat (go_big_quiet_step (fail))
    refine wpQuiet_nil ?_
    rintro _ ⟨x, rfl⟩
    go_wp2
    go_ret
    exact ⟨rfl, x.below⟩
end Go.Proofs.YtfjblenkcfdbiaaGreat

/-
  The specification: routes; what fits; a change that is ok.
-/
namespace Go.Proofs.YtfjblenkcfdbiaaGreat
open Go.RowKit
attribute [local go_sem] Later.cell Later.frozen

theorem StrsAt.cellS {w : World} {g off n cap : Nat} {ws : List ByteArray} (h : StrsAt w (.slice (some ⟨g, off, none⟩) n cap) ws) (i : Nat) (hi : i < ws.length) : w.cell? ⟨g, off + i, none⟩ = some (.string (wat ws i)) := by
  obtain ⟨g', off', cap', e, _, _, hc⟩ := h
  cases e
  exact hc i _ (wat_get hi)
theorem routeB_noS {ps : List Tri} {ws : List ByteArray} (h : inB ws.length 2 8 = false) : routeB ps ws = false := by unfold routeB; rw [h]; rfl
theorem routeB_yesS {ps : List Tri} {ws : List ByteArray} (h : inB ws.length 2 8 = true) : routeB ps ws = allB ws.length (stepB ps ws) := by unfold routeB; rw [h]; rfl

set_option maxHeartbeats 3200000 in
theorem l2RouteOk_any (vk vp v : Value) (ps : List Tri) (ws : List ByteArray) (w : World) (hp : TrisAt w vp ps) (hv : StrsAt w v ws) (hmem : ∀ x, memB ps x = hasB ps x) :
    Calls Tryz.prog 98 #[.agg #[vk, vp], v] w fun e w' => e = .returned (.bool (routeB ps ws)) ∧ Below w.heap.size w w' := by
  have HST : Hid (StrsAt w v ws) := hv
  have HP : Hid (TrisAt w vp ps) := hp
  have HMEM : Hid (∀ x, memB ps x = hasB ps x) := hmem
  obtain ⟨g, off, cap, rfl, hlc, hcm, -⟩ := hv
  clear hp hmem
  unfold maxLen at hcm
  cases hin : inB ws.length 2 8
  · have HI : Hid (inB ws.length 2 8 = false) := hin
    have e : routeB ps ws = false := routeB_noS hin
    rw [e]; clear e hin
    go_enter Tryz.func98, Tryz.ntmps98
    go_wp2_with fail
    refine (l1In_any _ _ _ _).mono ?_
    rw [HI.out]
    rintro e w1 ⟨rfl, rfl⟩
    go_wp2
    go_ret
    exact ⟨rfl, (Below.refl _ _).alloc (Nat.le_refl _) _⟩
  have HI : Hid (inB ws.length 2 8 = true) := hin
  have e : routeB ps ws = allB ws.length (stepB ps ws) := routeB_yesS hin
  have h8 : ws.length ≤ 8 := by simp [inB] at hin; omega
  rw [e]; clear e hin
  go_enter Tryz.func98, Tryz.ntmps98
  go_wp2_with fail
  refine (l1In_any _ _ _ _).mono ?_
  rw [HI.out]
  rintro e w1 ⟨rfl, rfl⟩
  go_wp2
  go_loopw [5] (fun i wr => ∃ k : Nat, k ≤ ws.length ∧ i = .int .i64 k ∧ Boxed w wr vk vp ∧ Hid (∀ j, j < k → stepB ps ws j = true)) (fun i _ => ws.length - (intOf i).toNat)
  case atStart => exact ⟨0, Nat.zero_le _, rfl, Boxed.start _ _ _ _, fun j hj => absurd hj (Nat.not_lt_zero _)⟩
  case round =>
    obtain ⟨k, hk, rfl, hx, HA⟩ := hrel
    have x0 := hx.c0
    have x1 := hx.c1
    have xz := hx.big
    have HX : Hid (Boxed w wr vk vp) := hx
    clear hx
    by_cases hlt : k < ws.length
    · have c0 : wr.cell? ⟨g, off + k, none⟩ = some (.string (wat ws k)) := (HST.out.keep HX.out.below).cellS k hlt
      have hgl : g < wr.heap.size := lt_of_cell c0
      have hk0 : (0 : Int) ≤ (k : Int) := by omega
      have hk1 : (k : Int) < (ws.length : Int) := by omega
      have hne := Later.some wr
      have GP : Hid (∀ (x : ByteArray) (y : Later wr), Calls Tryz.prog 113 #[.agg #[vk, vp], .string x] y.val fun e w'' => e = .returned (.int .i64 (atI ps x)) ∧ ∃ z : Later wr, w'' = z.val) :=
        fun x y => Calls.later (l1Point_any vk vp ps x y.val ((HP.out.keep HX.out.below).keep y.below))
      cases hh : hasB ps (wat ws k)
      · have hq : decide (atI ps (wat ws k) < 0) = true := by rw [atI_no, HMEM.out, hh]; rfl
        have HH : Hid (stepB ps ws k = false) := by show stepB ps ws k = false; unfold stepB; rw [hh]; rfl
        clear hh
        go_wp2
        refine wp_region_later (by kernel_rfl) (by kernel_rfl) ?_
        repeat (go_big_quiet_step (first | (go_at_call 113; exact GP.out _ _)))
        refine wpQuiet_nil ?_
        rintro _ ⟨x, rfl⟩
        go_wp2
        go_ret
        exact ⟨ret_bool (allB_false hlt HH.out).symm, below_step HX.out.below x.below⟩
      · have hq : decide (atI ps (wat ws k) < 0) = false := by rw [atI_no, HMEM.out, hh]; rfl
        have HH : Hid (hasB ps (wat ws k) = true) := hh
        clear hh
        by_cases hz : 0 < k
        · have hz' : decide (0 < k) = true := by simp [hz]
          have c1 : wr.cell? ⟨g, off + (k - 1), none⟩ = some (.string (wat ws (k - 1))) := (HST.out.keep HX.out.below).cellS (k - 1) (by omega)
          have hi0 : (0 : Int) ≤ (k : Int) - 1 := by omega
          have hi1 : (k : Int) - 1 < (ws.length : Int) := by omega
          by_cases hx : wat ws (k - 1) = wat ws k
          · have he : ((wat ws (k - 1)).toList == (wat ws k).toList) = true := str_eq hx
            have HF : Hid (stepB ps ws k = false) := by show stepB ps ws k = false; unfold stepB; simp [hx, hz]
            clear hx
            go_wp2
            refine wp_region_later (by kernel_rfl) (by kernel_rfl) ?_
            repeat (go_big_quiet_step (first | (go_at_call 113; exact GP.out _ _)))
            refine wpQuiet_nil ?_
            rintro _ ⟨x, rfl⟩
            go_wp2
            go_ret
            exact ⟨ret_bool (allB_false hlt HF.out).symm, below_step HX.out.below x.below⟩
          · have he : ((wat ws (k - 1)).toList == (wat ws k).toList) = false := str_ne hx
            have HF : Hid (stepB ps ws k = true) := by show stepB ps ws k = true; unfold stepB; rw [HH.out]; simp [hx]
            clear hx
            go_wp2
            refine wp_region_later (by kernel_rfl) (by kernel_rfl) ?_
            repeat (go_big_quiet_step (first | (go_at_call 113; exact GP.out _ _)))
            refine wpQuiet_nil ?_
            rintro _ ⟨x, rfl⟩
            go_wp2
            exact ⟨⟨k + 1, by omega, by go_num, HX.out.call x.below, fun j hj => if e : j = k then by rw [e]; exact HF.out else HA.out j (by omega)⟩, by simp [intOf]; omega⟩
        · have hz' : decide (0 < k) = false := by simp; omega
          have HF : Hid (stepB ps ws k = true) := by show stepB ps ws k = true; unfold stepB; rw [HH.out]; simp [hz]
          go_wp2
          refine wp_region_later (by kernel_rfl) (by kernel_rfl) ?_
          repeat (go_big_quiet_step (first | (go_at_call 113; exact GP.out _ _)))
          refine wpQuiet_nil ?_
          rintro _ ⟨x, rfl⟩
          go_wp2
          exact ⟨⟨k + 1, by omega, by go_num, HX.out.call x.below, fun j hj => if e : j = k then by rw [e]; exact HF.out else HA.out j (by omega)⟩, by simp [intOf]; omega⟩
    · go_wp2
      go_ret
      exact ⟨ret_bool (allB_true fun j hj => HA.out j (by omega)).symm, HX.out.below⟩

theorem open_listS : openS.toList = [111, 112, 101, 110] := by rw [ByteArray.toList_eq]; rfl
theorem closed_listS : closedS.toList = [99, 108, 111, 115, 101, 100] := by rw [ByteArray.toList_eq]; rfl
theorem level_num (s : ByteArray) : inB (numI s) 1 6 = levelB s := by
  unfold levelB
  cases h : decB s
  · rw [numI_no h]; rfl
  · rw [numI_yes h]; rfl

set_option maxHeartbeats 3200000 in
theorem specFits_any (vk vp : Value) (ks ps : List Tri) (what : Int) (s : ByteArray) (w : World) (hk : TrisAt w vk ks) (hp : TrisAt w vp ps) (nk : Names ks) (np : Names ps) (hs : s.size ≤ 1048576) :
    Calls Tryz.prog 58 #[.agg #[vk, vp], .int .i64 what, .string s] w fun e w' => e = .returned (.bool (baseB ks ps && valB2 ks ps what s)) ∧ Below w.heap.size w w' := by
  have HK := hk; have HP := hp
  obtain ⟨ak, ck, rfl, -, -, -⟩ := hk
  obtain ⟨ap, cp, rfl, -, -, -⟩ := hp
  have HK1 : Hid (TrisAt w (.slice ak ks.length ck) ks) := HK
  have HP1 : Hid (TrisAt w (.slice ap ps.length cp) ps) := HP
  have HB : Hid (∀ wx : World, Below w.heap.size w wx → Calls Tryz.prog 53 #[.agg #[.slice ak ks.length ck, .slice ap ps.length cp]] wx fun e w' => e = .returned (.bool (baseB ks ps)) ∧ Below wx.heap.size wx w') := fun wx hx => specBase_any _ _ ks ps wx (HK.keep hx) (HP.keep hx) nk np
  have HCUT : Hid (∀ wx : World, Calls Tryz.prog 94 #[.string s, .int .u8 32] wx fun e w' => ∃ v, e = .returned v ∧ StrsAt w' v (cutW s) ∧ Below wx.heap.size wx w') :=
    fun wx => (l2Cut_any s wx hs).mono fun e w' ⟨v, ws, he, hst, hm, hb⟩ => ⟨v, he, cutW_eq hm ▸ hst, hb⟩
  have HSZ : Hid (∀ x ∈ cutW s, x.size ≤ 1048576) := fun x hx => Nat.le_trans (cutW_size s x hx) hs
  clear HK HP nk np
  cases hbb : baseB ks ps
  · have HBB : Hid (baseB ks ps = false) := hbb
    rw [Bool.false_and]; clear hbb
    go_enter Tryz.func58, Tryz.ntmps58
    go_wp2_with fail
    refine (HB.out _ ((Below.refl _ _).alloc (Nat.le_refl _) _)).mono ?_
    rw [HBB.out]
    rintro e w1 ⟨rfl, hb1⟩
    go_wp2
    go_ret
    exact ⟨rfl, below_step ((Below.refl _ _).alloc (Nat.le_refl _) _) hb1⟩
  have HBB : Hid (baseB ks ps = true) := hbb
  have HKA : Hid (∀ i, i < ks.length → ascB ks i = true) := kinds_asc (by unfold baseB at hbb; rw [Bool.and_eq_true] at hbb; exact hbb.1)
  have HPA : Hid (∀ i, i < ps.length → ascB ps i = true) := points_asc (by unfold baseB at hbb; rw [Bool.and_eq_true] at hbb; exact hbb.2)
  rw [Bool.true_and]; clear hbb
  have HV : Hid (∀ k : Int, what = k → valB2 ks ps what s = valB2 ks ps k s) := fun k hk => by rw [hk]
  generalize hcw : cutW s = ws at *
  have E2 : Hid (valB2 ks ps 2 s = timeB ws) := by show _ = _; rw [← hcw]; rfl
  have E4 : Hid (valB2 ks ps 4 s = routeB ps ws) := by show _ = _; rw [← hcw]; rfl
  clear hcw
  have E1 : Hid (valB2 ks ps 1 s = hasB ks s) := rfl
  have E3 : Hid (valB2 ks ps 3 s = levelB s) := rfl
  have E5 : Hid (valB2 ks ps 5 s = stateB s) := rfl
  have E6 : Hid (¬ what = 1 → ¬ what = 2 → ¬ what = 3 → ¬ what = 4 → ¬ what = 5 → valB2 ks ps what s = false) := fun h1 h2 h3 h4 h5 => by simp [valB2, h1, h2, h3, h4, h5]
  go_enter Tryz.func58, Tryz.ntmps58
  go_wp2_with fail
  refine (HB.out _ ((Below.refl _ _).alloc (Nat.le_refl _) _)).mono ?_
  rw [HBB.out]
  rintro e w1 ⟨rfl, hb1⟩
  have hx1 : Boxed w w1 (.slice ak ks.length ck) (.slice ap ps.length cp) := (Boxed.start w _ _ _).call hb1
  have HX1 : Hid (Boxed w w1 (.slice ak ks.length ck) (.slice ap ps.length cp)) := hx1
  clear hx1 hb1
  go_wp2_with fail
  refine (HCUT.out _).mono ?_
  rintro e w2 ⟨v, rfl, hst, hb2⟩
  have hx2 := HX1.out.call hb2
  have x0 := hx2.c0
  have x1 := hx2.c1
  have HX2 : Hid (Boxed w w2 (.slice ak ks.length ck) (.slice ap ps.length cp)) := hx2
  have HST : Hid (StrsAt w2 v ws) := hst
  obtain ⟨g, off, cap, rfl, -, -, -⟩ := hst
  clear hx2 hb2 HX1 HB HCUT
  by_cases h1 : what = 1
  · subst h1
    go_wp2_with fail
    refine (l1Kind_any _ _ ks s _ (HK1.out.keep HX2.out.below)).mono ?_
    rintro e w3 ⟨rfl, hb3⟩
    go_wp2
    go_ret
    exact ⟨ret_bool (by rw [E1.out]; rw [atI_has]; exact (has_mem HKA.out).symm), below_step HX2.out.below hb3⟩
  have g1 : (what == 1) = false := by simp [h1]
  by_cases h2 : what = 2
  · subst h2
    go_wp2_with fail
    refine (l2TimeOk_any _ ws _ HST.out HSZ.out).mono ?_
    rintro e w3 ⟨rfl, hb3⟩
    go_wp2
    go_ret
    exact ⟨ret_bool E2.out.symm, below_step HX2.out.below hb3⟩
  have g2 : (what == 2) = false := by simp [h2]
  by_cases h3 : what = 3
  · subst h3
    go_wp2_with fail
    refine (l2Number_any s _ (by unfold maxLen; omega)).mono ?_
    rintro e w3 ⟨rfl, rfl⟩
    go_wp2_with fail
    refine (l1In_any _ _ _ _).mono ?_
    rintro e w4 ⟨rfl, rfl⟩
    go_wp2
    go_ret
    exact ⟨ret_bool (by rw [E3.out]; exact level_num s), HX2.out.below⟩
  have g3 : (what == 3) = false := by simp [h3]
  by_cases h4 : what = 4
  · subst h4
    go_wp2_with fail
    refine (l2RouteOk_any _ _ _ ps ws _ (HP1.out.keep HX2.out.below) HST.out fun x => (has_mem HPA.out).symm).mono ?_
    rintro e w3 ⟨rfl, hb3⟩
    go_wp2
    go_ret
    exact ⟨ret_bool E4.out.symm, below_step HX2.out.below hb3⟩
  have g4 : (what == 4) = false := by simp [h4]
  by_cases h5 : what = 5
  · subst h5
    by_cases q1 : s = openS
    · have r1 : (s.toList == [111, 112, 101, 110]) = true := open_listS ▸ str_eq q1
      have HF : Hid (stateB s = true) := by show stateB s = true; simp [stateB, q1]
      clear q1
      go_wp2
      go_ret
      exact ⟨ret_bool (by rw [E5.out, HF.out]), HX2.out.below⟩
    · have r1 : (s.toList == [111, 112, 101, 110]) = false := open_listS ▸ str_ne q1
      by_cases q2 : s = closedS
      · have r2 : (s.toList == [99, 108, 111, 115, 101, 100]) = true := closed_listS ▸ str_eq q2
        have HF : Hid (stateB s = true) := by show stateB s = true; simp [stateB, q2]
        clear q1 q2
        go_wp2
        go_ret
        exact ⟨ret_bool (by rw [E5.out, HF.out]), HX2.out.below⟩
      · have r2 : (s.toList == [99, 108, 111, 115, 101, 100]) = false := closed_listS ▸ str_ne q2
        have HF : Hid (stateB s = false) := by show stateB s = false; simp [stateB, q1, q2]
        clear q1 q2
        go_wp2
        go_ret
        exact ⟨ret_bool (by rw [E5.out, HF.out]), HX2.out.below⟩
  have g5 : (what == 5) = false := by simp [h5]
  have HF : Hid (valB2 ks ps what s = false) := E6.out h1 h2 h3 h4 h5
  clear h1 h2 h3 h4 h5
  go_wp2
  go_ret
  exact ⟨ret_bool HF.out.symm, HX2.out.below⟩

set_option maxHeartbeats 1600000 in
theorem specChangeOk_any (vk vp : Value) (ks ps : List Tri) (c : Chg) (w : World) (hk : TrisAt w vk ks) (hp : TrisAt w vp ps) (nk : Names ks) (np : Names ps) (hf : c.f.size ≤ 1048576) (hs : c.v.size ≤ 1048576) :
    Calls Tryz.prog 26 #[.agg #[vk, vp], .agg #[.string c.f, .int .i64 c.what, .int .i64 c.num, .string c.v]] w fun e w' => e = .returned (.bool (baseB ks ps && fitB ks ps c)) ∧ Below w.heap.size w w' := by
  have HK := hk; have HP := hp
  obtain ⟨ak, ck, rfl, -, -, -⟩ := hk
  obtain ⟨ap, cp, rfl, -, -, -⟩ := hp
  have HF : Hid (∀ wx : World, Below w.heap.size w wx → Calls Tryz.prog 58 #[.agg #[.slice ak ks.length ck, .slice ap ps.length cp], .int .i64 c.what, .string c.v] wx fun e w' => e = .returned (.bool (baseB ks ps && valB2 ks ps c.what c.v)) ∧ Below wx.heap.size wx w') := fun wx hx => specFits_any _ _ ks ps c.what c.v wx (HK.keep hx) (HP.keep hx) nk np hs
  clear HK HP nk np
  obtain ⟨f, what, num, v⟩ := c
  dsimp only at *
  have HE : Hid ((baseB ks ps && fitB ks ps ⟨f, what, num, v⟩) = (nameB f && (inB num 1 1000000 && (baseB ks ps && valB2 ks ps what v)))) := by
    show (baseB ks ps && (nameB f && (inB num 1 1000000 && valB2 ks ps what v))) = _
    cases baseB ks ps <;> cases nameB f <;> cases inB num 1 1000000 <;> rfl
  generalize (baseB ks ps && fitB ks ps ⟨f, what, num, v⟩) = res at *
  generalize (baseB ks ps && valB2 ks ps what v) = b3 at *
  go_enter Tryz.func26, Tryz.ntmps26
  go_wp2_with fail
  refine (l1NameOk_any f _ (by unfold maxLen; omega)).mono ?_
  generalize nameB f = b1 at *
  rintro e w1 ⟨rfl, rfl⟩
  cases b1
  · go_wp2
    go_ret
    exact ⟨ret_bool (by rw [HE.out]; rfl), ((Below.refl _ _).alloc (Nat.le_refl _) _).alloc (by simp) _⟩
  · go_wp2_with fail
    refine (l1In_any _ _ _ _).mono ?_
    generalize inB num 1 1000000 = b2 at *
    rintro e w2 ⟨rfl, rfl⟩
    cases b2
    · go_wp2
      go_ret
      exact ⟨ret_bool (by rw [HE.out]; rfl), ((Below.refl _ _).alloc (Nat.le_refl _) _).alloc (by simp) _⟩
    · go_wp2_with fail
      refine (HF.out _ (((Below.refl _ _).alloc (Nat.le_refl _) _).alloc (by simp) _)).mono ?_
      rintro e w3 ⟨rfl, hb3⟩
      go_wp2
      go_ret
      exact ⟨ret_bool (by rw [HE.out]; rfl), below_step (((Below.refl _ _).alloc (Nat.le_refl _) _).alloc (by simp) _) hb3⟩
end Go.Proofs.YtfjblenkcfdbiaaGreat

/-
  The specification: an entry, a book that is ok.
-/
namespace Go.Proofs.YtfjblenkcfdbiaaGreat
open Go.RowKit
attribute [local go_sem] Later.cell Later.frozen

def fldRound (ks ps : List Tri) (n : ByteArray) (l : List Fld) (i : Nat) : Bool := (baseB ks ps && fitB ks ps (chgOf n (fat l i))) && ascF l i
def entB (ks ps : List Tri) (n : ByteArray) (l : List Fld) : Bool := nameB n && (decide (0 < l.length) && allB l.length (fldRound ks ps n l))
theorem book_eq (ks ps : List Tri) (es : List Ent) : bookB ks ps es = (baseB ks ps && (decide (es.length ≤ 12) && allB es.length fun i => entB ks ps (eat es i).name (eat es i).fs && ascE es i)) := by
  unfold bookB namesE
  cases hb : baseB ks ps
  · rfl
  · rw [Bool.true_and, Bool.true_and, Bool.and_assoc, ← allB_and]
    congr 1
    refine allB_congr fun j _ => ?_
    have e : allB (eat es j).fs.length (fldRound ks ps (eat es j).name (eat es j).fs) = allB (eat es j).fs.length fun i => ascF (eat es j).fs i && fitB ks ps (chgOf (eat es j).name (fat (eat es j).fs i)) :=
      allB_congr fun i _ => by unfold fldRound; rw [hb, Bool.true_and, Bool.and_comm]
    unfold entB fieldsB
    rw [e]
    generalize (allB (eat es j).fs.length fun i => ascF (eat es j).fs i && fitB ks ps (chgOf (eat es j).name (fat (eat es j).fs i))) = q
    generalize decide (0 < (eat es j).fs.length) = r
    cases nameB (eat es j).name <;> cases ascE es j <;> cases q <;> cases r <;> rfl

set_option maxRecDepth 100000 in
set_option maxHeartbeats 3200000 in
theorem l3EntryOk_any (vk vp fv : Value) (ks ps : List Tri) (n : ByteArray) (l : List Fld) (w : World) (hk : TrisAt w vk ks) (hp : TrisAt w vp ps) (nk : Names ks) (np : Names ps) (hv : FldsAt w fv l) (hn : n.size ≤ 1048576) (hs : ∀ f ∈ l, f.v.size ≤ 1048576) :
    Calls Tryz.prog 54 #[.agg #[vk, vp], .agg #[.string n, fv]] w fun e w' => e = .returned (.bool (entB ks ps n l)) ∧ Below w.heap.size w w' := by
  have HKP : Hid ((TrisAt w vk ks ∧ TrisAt w vp ps) ∧ (Names ks ∧ Names ps)) := ⟨⟨hk, hp⟩, nk, np⟩
  obtain ⟨ak, ck, rfl, -, -, -⟩ := hk
  obtain ⟨ap, cp, rfl, -, -, -⟩ := hp
  obtain ⟨a, cap, rfl, hlc, hcm, hc⟩ := hv
  unfold maxLen at hcm
  have HC : Hid (∀ i f, l[i]? = some f → ∃ b off, a = some ⟨b, off, none⟩ ∧ FldAt w b (off + i * 3) f) := hc
  have HS : Hid (∀ f ∈ l, f.v.size ≤ 1048576) := hs
  clear hc hs nk np
  have HO0 : Hid (OwnAt w ((w.alloc (.cells #[.slice ak ks.length ck, .slice ap ps.length cp] 36)).alloc (.cells #[.string n, .slice a l.length cap] 73)) [[.slice ak ks.length ck, .slice ap ps.length cp], [.string n, .slice a l.length cap]]) := ((OwnAt.start w).push rfl _ _).push (by simp) _ _
  have HE : Hid (entB ks ps n l = (nameB n && (decide (0 < l.length) && allB l.length (fldRound ks ps n l)))) := rfl
  go_enter Tryz.func54, Tryz.ntmps54
  go_wp2_with fail
  refine (l1NameOk_any n _ (by unfold maxLen; omega)).mono ?_
  generalize nameB n = nb at *
  rintro e w1 ⟨rfl, rfl⟩
  cases nb
  · go_wp2
    go_ret
    exact ⟨ret_bool (by rw [HE.out]; rfl), HO0.out.below⟩
  by_cases hz : l.length = 0
  · have hz' : (((l.length : Nat) : Int) == 0) = true := by simp [hz]
    have HF : Hid (entB ks ps n l = false) := by show _ = _; rw [HE.out]; simp [hz]
    clear hz
    go_wp2
    go_ret
    exact ⟨ret_bool HF.out.symm, HO0.out.below⟩
  have hz' : (((l.length : Nat) : Int) == 0) = false := by rw [beq_eq_false_iff_ne]; omega
  have HE2 : Hid (entB ks ps n l = allB l.length (fldRound ks ps n l)) := by
    show _ = _
    have : decide (0 < l.length) = true := by simp; omega
    rw [HE.out, this]; rfl
  clear HE hz
  go_wp2
  go_loopw [5, 6] (fun i _ wr => ∃ k : Nat, k ≤ l.length ∧ i = .int .i64 k ∧ OwnAt w wr [[.slice ak ks.length ck, .slice ap ps.length cp], [.string n, .slice a l.length cap]] ∧ Hid (∀ j, j < k → fldRound ks ps n l j = true)) (fun i _ _ => l.length - (intOf i).toNat)
  case atStart => exact ⟨0, Nat.zero_le _, rfl, HO0.out, fun j hj => absurd hj (Nat.not_lt_zero _)⟩
  case round =>
    obtain ⟨k, hk, rfl, ho, HA⟩ := hrel
    have HO1 : Hid (OwnAt w wr [[.slice ak ks.length ck, .slice ap ps.length cp], [.string n, .slice a l.length cap]]) := ho
    have y0 : wr.cell? ⟨w.heap.size + 1, 0, none⟩ = some (.string n) := (HO1.out.has 1 _ rfl 0 _ rfl).1
    have y1 : wr.cell? ⟨w.heap.size + 1, 1, none⟩ = some (.slice a l.length cap) := (HO1.out.has 1 _ rfl 1 _ rfl).1
    by_cases hlt : k < l.length
    · obtain ⟨b, off, rfl, hc⟩ := HC.out k _ (fat_get hlt)
      obtain ⟨d0, d1, d2⟩ := hc.keep ho.below (Nat.le_refl _)
      have hbz : b < wr.heap.size := lt_of_cell d0
      have hsk : (fat l k).v.size ≤ 1048576 := HS.out _ (List.mem_of_getElem? (fat_get hlt))
      have hk0 : (0 : Int) ≤ (k : Int) := by omega
      have hk1 : (k : Int) < (l.length : Int) := by omega
      have BAD : Hid (fldRound ks ps n l k = false → entB ks ps n l = false) := fun h => by rw [HE2.out, allB_false hlt h]
      have HB2 : Hid (Below wr.heap.size wr (wr.alloc (.cells #[.int .i64 (fat l k).what, .int .i64 (fat l k).num, .string (fat l k).v] 62))) := (Below.refl _ _).alloc (Nat.le_refl _) _
      have HO2 : Hid (OwnAt w (wr.alloc (.cells #[.int .i64 (fat l k).what, .int .i64 (fat l k).num, .string (fat l k).v] 62)) [[.slice ak ks.length ck, .slice ap ps.length cp], [.string n, .slice (some ⟨b, off, none⟩) l.length cap]]) := ho.call HB2.out
      have HF2 : Hid (FldAt (wr.alloc (.cells #[.int .i64 (fat l k).what, .int .i64 (fat l k).num, .string (fat l k).v] 62)) wr.heap.size 0 (fat l k)) := ⟨by simp, by simp, by simp⟩
      have HFIT : Hid (∀ wx : World, Below w.heap.size w wx → Calls Tryz.prog 26 #[.agg #[.slice ak ks.length ck, .slice ap ps.length cp], .agg #[.string n, .int .i64 (fat l k).what, .int .i64 (fat l k).num, .string (fat l k).v]] wx fun e w' => e = .returned (.bool (baseB ks ps && fitB ks ps (chgOf n (fat l k)))) ∧ Below wx.heap.size wx w') := fun wx hx => specChangeOk_any _ _ ks ps (chgOf n (fat l k)) wx (HKP.out.1.1.keep hx) (HKP.out.1.2.keep hx) HKP.out.2.1 HKP.out.2.2 hn hsk
      have MID : Hid (0 < k → ∃ m, k = m + 1 ∧ FldAt wr b (off + m * 3) (fat l m) ∧ ascF l k = !decide ((fat l k).what ≤ (fat l m).what)) := fun hz => by
        obtain ⟨m, rfl⟩ : ∃ m, k = m + 1 := ⟨k - 1, by omega⟩
        obtain ⟨b', off', hbo, hcm'⟩ := HC.out m _ (fat_get (by omega))
        cases hbo
        exact ⟨m, rfl, hcm'.keep ho.below (Nat.le_refl _), by simp [ascF]⟩
      have KR : Hid (fldRound ks ps n l k = ((baseB ks ps && fitB ks ps (chgOf n (fat l k))) && ascF l k)) := rfl
      clear ho hc
      go_upto_region 7 with fail
      generalize wr.alloc (.cells #[.int .i64 (fat l k).what, .int .i64 (fat l k).num, .string (fat l k).v] 62) = w2 at *
      clear y0 y1 d0 d1 d2
      have e0 : w2.cell? ⟨w.heap.size, 0, none⟩ = some (.slice ak ks.length ck) := (HO2.out.has 0 _ rfl 0 _ rfl).1
      have e1 : w2.cell? ⟨w.heap.size, 1, none⟩ = some (.slice ap ps.length cp) := (HO2.out.has 0 _ rfl 1 _ rfl).1
      have e2 : w2.cell? ⟨w.heap.size + 1, 0, none⟩ = some (.string n) := (HO2.out.has 1 _ rfl 0 _ rfl).1
      have e3 : w2.cell? ⟨w.heap.size + 1, 1, none⟩ = some (.slice (some ⟨b, off, none⟩) l.length cap) := (HO2.out.has 1 _ rfl 1 _ rfl).1
      have ez : w.heap.size + 1 < w2.heap.size := lt_of_cell e2
      have ey : w.heap.size < w2.heap.size := lt_of_cell e0
      obtain ⟨n0, n1, n2⟩ := HF2.out
      simp only [Nat.zero_add] at n1 n2
      have nz : wr.heap.size < w2.heap.size := lt_of_cell n0
      have hne := Later.some w2
      have hbz2 : b < w2.heap.size := by have := HB2.out.size; omega
      have GF : Hid (∀ (y : Later w2), Calls Tryz.prog 26 #[.agg #[.slice ak ks.length ck, .slice ap ps.length cp], .agg #[.string n, .int .i64 (fat l k).what, .int .i64 (fat l k).num, .string (fat l k).v]] y.val fun e w'' => e = .returned (.bool (baseB ks ps && fitB ks ps (chgOf n (fat l k)))) ∧ ∃ z : Later w2, w'' = z.val) := fun y => Calls.later (HFIT.out y.val (below_step HO2.out.below y.below))
      clear HFIT HF2
      generalize (baseB ks ps && fitB ks ps (chgOf n (fat l k))) = ft at *
      cases ft
      · refine wp_region_later (by kernel_rfl) (by kernel_rfl) ?_
        repeat (go_big_quiet_step (first | (go_at_call 26; exact GF.out _)))
        refine wpQuiet_nil ?_
        rintro _ ⟨x, rfl⟩
        go_wp2
        go_ret
        exact ⟨ret_bool (BAD.out (by rw [KR.out]; rfl)).symm, below_step HO2.out.below x.below⟩
      · by_cases hz : 0 < k
        · obtain ⟨m, hkm, hf, hh⟩ := MID.out hz
          have HH : Hid (ascF l k = !decide ((fat l k).what ≤ (fat l m).what)) := hh
          obtain ⟨g0, g1, g2⟩ := hf.keep HB2.out (Nat.le_refl _)
          have hz' : decide (0 < k) = true := by simp [hz]
          have hi0 : (0 : Int) ≤ (m : Int) := by omega
          have hi1 : (m : Int) < (l.length : Int) := by omega
          have hi2 : (0 : Int) < (m : Int) + 1 := by omega
          have hw1 : IntKind.i64.wrap (m : Int) = (m : Int) := by rw [IntKind.wrap_i64]; omega
          have hw2 : IntKind.i64.wrap ((m : Int) + 1 - 1) = (m : Int) := by rw [IntKind.wrap_i64]; omega
          have HKM : Hid (k = m + 1) := hkm
          clear hh hf
          subst hkm
          by_cases hq : (fat l (m + 1)).what ≤ (fat l m).what
          · have hq' : decide ((fat l (m + 1)).what ≤ (fat l m).what) = true := by simp [hq]
            have HQ : Hid (ascF l (m + 1) = false) := by show _ = _; rw [HH.out, hq']; rfl
            refine wp_region_later (by kernel_rfl) (by kernel_rfl) ?_
            repeat (go_big_quiet_step (first | (go_at_call 26; exact GF.out _)))
            refine wpQuiet_nil ?_
            rintro _ ⟨x, rfl⟩
            go_wp2
            go_ret
            exact ⟨ret_bool (BAD.out (by rw [KR.out, HQ.out]; rfl)).symm, below_step HO2.out.below x.below⟩
          · have hq' : decide ((fat l (m + 1)).what ≤ (fat l m).what) = false := by simp; omega
            have HQ : Hid (ascF l (m + 1) = true) := by show _ = _; rw [HH.out, hq']; rfl
            refine wp_region_later (by kernel_rfl) (by kernel_rfl) ?_
            repeat (go_big_quiet_step (first | (go_at_call 26; exact GF.out _)))
            refine wpQuiet_nil ?_
            rintro _ ⟨x, rfl⟩
            go_wp2
            exact ⟨⟨m + 1 + 1, by omega, by go_num, HO2.out.call x.below, fun j hj => if e : j = m + 1 then by rw [e, KR.out, HQ.out]; rfl else HA.out j (by omega)⟩, by simp [intOf]; omega⟩
        · have hz' : decide (0 < k) = false := by simp; omega
          have HQ : Hid (ascF l k = true) := by
            show ascF l k = true
            obtain rfl : k = 0 := by omega
            exact ascF_zero l
          refine wp_region_later (by kernel_rfl) (by kernel_rfl) ?_
          repeat (go_big_quiet_step (first | (go_at_call 26; exact GF.out _)))
          refine wpQuiet_nil ?_
          rintro _ ⟨x, rfl⟩
          go_wp2
          exact ⟨⟨k + 1, by omega, by go_num, HO2.out.call x.below, fun j hj => if e : j = k then by rw [e, KR.out, HQ.out]; rfl else HA.out j (by omega)⟩, by simp [intOf]; omega⟩
    · clear ho
      go_wp2
      go_ret
      exact ⟨ret_bool (by rw [HE2.out]; exact (allB_true fun j hj => HA.out j (by omega)).symm), HO1.out.below⟩

set_option maxRecDepth 100000 in
set_option maxHeartbeats 3200000 in
theorem specBookOk_any (vk vp ve : Value) (ks ps : List Tri) (es : List Ent) (w : World) (hB : BookAt w vk vp ve ks ps es) (nB : BNames ks ps es) (sB : BSmall ks ps es) :
    Calls Tryz.prog 24 #[.agg #[vk, vp, ve]] w fun e w' => e = .returned (.bool (bookB ks ps es)) ∧ Below w.heap.size w w' := by
  have HB : Hid (BookAt w vk vp ve ks ps es) := hB
  have NB : Hid (BNames ks ps es) := nB
  have SB : Hid (BSmall ks ps es) := sB
  obtain ⟨⟨ak, ck, rfl, -, -, -⟩, ⟨ap, cp, rfl, -, -, -⟩, ⟨ae, ce, rfl, hlc, hcm, hc⟩⟩ := hB
  unfold maxLen at hcm
  have HC : Hid (∀ i f, es[i]? = some f → ∃ b off, ae = some ⟨b, off, none⟩ ∧ EntAt w b (off + i * 2) f) := hc
  clear nB sB hc
  have HX0 : Hid (OwnAt w (w.alloc (.cells #[.slice ak ks.length ck, .slice ap ps.length cp, .slice ae es.length ce] 39)) [[.slice ak ks.length ck, .slice ap ps.length cp, .slice ae es.length ce]]) := (OwnAt.start w).push rfl _ _
  have HE : Hid (bookB ks ps es = (baseB ks ps && (decide (es.length ≤ 12) && allB es.length fun i => entB ks ps (eat es i).name (eat es i).fs && ascE es i))) := book_eq ks ps es
  go_enter Tryz.func24, Tryz.ntmps24
  go_wp2_with fail
  refine (specBase_any _ _ ks ps _ (HB.out.k.keep HX0.out.below) (HB.out.p.keep HX0.out.below) NB.out.k NB.out.p).mono ?_
  rintro e w1 ⟨rfl, hb1⟩
  have HX1 : Hid (OwnAt w w1 _) := HX0.out.call hb1
  clear HX0 hb1
  have y0 : w1.cell? ⟨w.heap.size, 0, none⟩ = some (.slice ak ks.length ck) := (HX1.out.has 0 _ rfl 0 _ rfl).1
  have y1 : w1.cell? ⟨w.heap.size, 1, none⟩ = some (.slice ap ps.length cp) := (HX1.out.has 0 _ rfl 1 _ rfl).1
  have y2 : w1.cell? ⟨w.heap.size, 2, none⟩ = some (.slice ae es.length ce) := (HX1.out.has 0 _ rfl 2 _ rfl).1
  have hbb : (kindsB ks && pointsB ps) = baseB ks ps := rfl
  rw [hbb]; clear hbb
  cases hb : baseB ks ps
  · have HBF : Hid (bookB ks ps es = false) := by show _ = _; rw [HE.out, hb]; rfl
    clear hb
    go_wp2
    go_ret
    exact ⟨ret_bool HBF.out.symm, HX1.out.below⟩
  by_cases h12 : (12 : Int) < (es.length : Int)
  · have HBF : Hid (bookB ks ps es = false) := by
      show _ = _
      have : decide (es.length ≤ 12) = false := by simp; omega
      rw [HE.out, this]; cases baseB ks ps <;> rfl
    clear hb
    go_wp2
    go_ret
    exact ⟨ret_bool HBF.out.symm, HX1.out.below⟩
  have HE2 : Hid (bookB ks ps es = allB es.length fun i => entB ks ps (eat es i).name (eat es i).fs && ascE es i) := by
    show _ = _
    have : decide (es.length ≤ 12) = true := by simp; omega
    rw [HE.out, this, hb]; rfl
  clear HE hb
  go_wp2
  clear y0 y1 y2
  go_loopw [3] (fun i wr => ∃ k : Nat, k ≤ es.length ∧ i = .int .i64 k ∧ OwnAt w wr [[.slice ak ks.length ck, .slice ap ps.length cp, .slice ae es.length ce]] ∧ Hid (∀ j, j < k → (entB ks ps (eat es j).name (eat es j).fs && ascE es j) = true)) (fun i _ => es.length - (intOf i).toNat)
  case atStart => exact ⟨0, Nat.zero_le _, rfl, HX1.out, fun j hj => absurd hj (Nat.not_lt_zero _)⟩
  case round =>
    obtain ⟨k, hk, rfl, ho, HA⟩ := hrel
    have HO1 : Hid (OwnAt w wr [[.slice ak ks.length ck, .slice ap ps.length cp, .slice ae es.length ce]]) := ho
    have y0 : wr.cell? ⟨w.heap.size, 0, none⟩ = some (.slice ak ks.length ck) := (HO1.out.has 0 _ rfl 0 _ rfl).1
    have y1 : wr.cell? ⟨w.heap.size, 1, none⟩ = some (.slice ap ps.length cp) := (HO1.out.has 0 _ rfl 1 _ rfl).1
    have y2 : wr.cell? ⟨w.heap.size, 2, none⟩ = some (.slice ae es.length ce) := (HO1.out.has 0 _ rfl 2 _ rfl).1
    have yz : w.heap.size < wr.heap.size := lt_of_cell y0
    by_cases hlt : k < es.length
    · obtain ⟨b, off, rfl, hc⟩ := HC.out k _ (eat_get hlt)
      obtain ⟨fv, d0, d1, hfl⟩ := hc.keep ho.below
      have HFL : Hid (FldsAt wr fv (eat es k).fs) := hfl
      obtain ⟨fa, fc, rfl, -, -, -⟩ := hfl
      have dz : b < wr.heap.size := lt_of_cell d0
      have HM : Hid (eat es k ∈ es) := List.mem_of_getElem? (eat_get hlt)
      have hk0 : (0 : Int) ≤ (k : Int) := by omega
      have hk1 : (k : Int) < (es.length : Int) := by omega
      have hne := Later.some wr
      have GE : Hid (∀ y : Later wr, Calls Tryz.prog 54 #[.agg #[.slice ak ks.length ck, .slice ap ps.length cp], .agg #[.string (eat es k).name, .slice fa (eat es k).fs.length fc]] y.val fun e w'' => e = .returned (.bool (entB ks ps (eat es k).name (eat es k).fs)) ∧ ∃ z : Later wr, w'' = z.val) :=
        fun y => Calls.later (l3EntryOk_any _ _ _ ks ps (eat es k).name (eat es k).fs y.val ((HB.out.k.keep HO1.out.below).keep y.below) ((HB.out.p.keep HO1.out.below).keep y.below) NB.out.k NB.out.p (HFL.out.keep y.below) (SB.out.n _ HM.out) (SB.out.v _ HM.out))
      have MID : Hid (0 < k → ∃ m, k = m + 1 ∧ EntAt wr b (off + m * 2) (eat es m) ∧ ascE es k = !geB (eat es m).name (eat es k).name) := fun hz => by
        obtain ⟨m, rfl⟩ : ∃ m, k = m + 1 := ⟨k - 1, by omega⟩
        obtain ⟨b', off', hbo, hcm'⟩ := HC.out m _ (eat_get (by omega))
        cases hbo
        exact ⟨m, rfl, hcm'.keep ho.below, ascE_succ es m⟩
      have BAD : Hid ((entB ks ps (eat es k).name (eat es k).fs && ascE es k) = false → bookB ks ps es = false) := fun h => by rw [HE2.out, allB_false hlt h]
      generalize hee : entB ks ps (eat es k).name (eat es k).fs = ee at *
      have HEE : Hid (entB ks ps (eat es k).name (eat es k).fs = ee) := hee
      clear hee ho hc
      cases ee
      · go_wp2
        refine wp_region_later (by kernel_rfl) (by kernel_rfl) ?_
        repeat (go_big_quiet_step (first | (go_at_call 54; exact GE.out _)))
        refine wpQuiet_nil ?_
        rintro _ ⟨x, rfl⟩
        go_wp2
        go_ret
        exact ⟨ret_bool (BAD.out rfl).symm, below_step HO1.out.below x.below⟩
      · by_cases hz : 0 < k
        · obtain ⟨m, hkm, ⟨fv', g0, g1, hfl'⟩, hh⟩ := MID.out hz
          obtain ⟨fa', fc', rfl, -, -, -⟩ := hfl'
          have HH : Hid (ascE es k = !geB (eat es m).name (eat es k).name) := hh
          have hz' : decide (0 < k) = true := by simp [hz]
          have hi0 : (0 : Int) ≤ (m : Int) := by omega
          have hi1 : (m : Int) < (es.length : Int) := by omega
          have hi2 : (0 : Int) < (m : Int) + 1 := by omega
          have hw1 : IntKind.i64.wrap (m : Int) = (m : Int) := by rw [IntKind.wrap_i64]; omega
          have hw2 : IntKind.i64.wrap ((m : Int) + 1 - 1) = (m : Int) := by rw [IntKind.wrap_i64]; omega
          clear hh
          subst hkm
          go_wp2
          refine wp_region_later (by kernel_rfl) (by kernel_rfl) ?_
          repeat (go_big_quiet_step (first | (go_at_call 54; exact GE.out _)))
          refine wpQuiet_nil ?_
          rintro _ ⟨x, rfl⟩
          go_wp2
          · rename_i h
            go_ret
            exact ⟨ret_bool (BAD.out (by rw [HH.out]; unfold geB; rw [h]; rfl)).symm, below_step HO1.out.below x.below⟩
          · rename_i h
            exact ⟨⟨m + 1 + 1, by omega, by go_num, HO1.out.call x.below, fun j hj => if e : j = m + 1 then by rw [e, HEE.out, HH.out]; unfold geB; rw [h]; rfl else HA.out j (by omega)⟩, by simp [intOf]; omega⟩
        · have hz' : decide (0 < k) = false := by simp; omega
          have HQ : Hid (ascE es k = true) := by
            show ascE es k = true
            obtain rfl : k = 0 := by omega
            exact ascE_zero es
          go_wp2
          refine wp_region_later (by kernel_rfl) (by kernel_rfl) ?_
          repeat (go_big_quiet_step (first | (go_at_call 54; exact GE.out _)))
          refine wpQuiet_nil ?_
          rintro _ ⟨x, rfl⟩
          go_wp2
          exact ⟨⟨k + 1, by omega, by go_num, HO1.out.call x.below, fun j hj => if e : j = k then by rw [e, HEE.out, HQ.out]; rfl else HA.out j (by omega)⟩, by simp [intOf]; omega⟩
    · clear ho
      go_wp2
      go_ret
      exact ⟨ret_bool (by rw [HE2.out]; exact (allB_true fun j hj => HA.out j (by omega)).symm), HO1.out.below⟩
end Go.Proofs.YtfjblenkcfdbiaaGreat
