
/-
  The specification: where a kind or a point is; times, routes; what fits; a change that is ok.
-/
import Derived.Test.YtfjblenkcfdbiaaFitsB
import Derived.Test.YtfjblenkcfdbiaaDec2
import Derived.Test.YtfjblenkcfdbiaaSpecKinds
namespace Go.Proofs.Ytfjblenkcfdbiaa
open Go.RowKit
attribute [local go_sem] Later.cell Later.frozen

/-- Where it is; -1 if it is not there. -/
def atI (l : List Tri) (v : ByteArray) : Int := if memB l v = true then ((l.findIdx fun t => decide (t.s = v) : Nat) : Int) else -1
theorem atI_some {l : List Tri} {v : ByteArray} {k : Nat} (hk : k < l.length) (h : (at' l k).s = v) (hn : ∀ j, j < k → ¬ (at' l j).s = v) : atI l v = k := by
  unfold atI
  rw [if_pos (memB_true hk h)]
  have e : ∀ j (hj : j < l.length), at' l j = l[j] := fun j hj => by simp [at', hj]
  have : (l.findIdx fun t => decide (t.s = v)) = k := by
    rw [List.findIdx_eq hk]
    refine ⟨by rw [← e k hk]; simpa using h, fun j hj => by rw [← e j (by omega)]; simpa using hn j hj⟩
  rw [this]
theorem atI_none {l : List Tri} {v : ByteArray} (h : ∀ j, j < l.length → ¬ (at' l j).s = v) : atI l v = -1 := by
  unfold atI; rw [if_neg]; rw [memB_false h]; simp
theorem atI_has (l : List Tri) (v : ByteArray) : decide (0 ≤ atI l v) = memB l v := by
  unfold atI; cases memB l v <;> simp
theorem atI_no (l : List Tri) (v : ByteArray) : decide (atI l v < 0) = !memB l v := by
  unfold atI; cases memB l v <;> simp
theorem atI_ge (l : List Tri) (v : ByteArray) : -1 ≤ atI l v := by
  unfold atI; split <;> omega

set_option maxHeartbeats 800000 in
theorem l1Kind_any (vk vp : Value) (l : List Tri) (s : ByteArray) (w : World) (hv : TrisAt w vk l) :
    Calls Try.prog 83 #[.agg #[vk, vp], .string s] w fun e w' => e = .returned (.int .i64 (atI l s)) ∧ Below w.heap.size w w' := by
  obtain ⟨a, cap, rfl, hlc, hcm, hc⟩ := hv
  unfold maxLen at hcm
  have HC : Hid (∀ i t, l[i]? = some t → ∃ b off, a = some ⟨b, off, none⟩ ∧ TriAt w b (off + i * 3) t) := hc
  clear hc
  go_enter Try.func83, Try.ntmps83
  go_wp2
  go_loopw [5] (fun i wr => ∃ k : Nat, k ≤ l.length ∧ i = .int .i64 k ∧ Boxed w wr (.slice a l.length cap) vp ∧ Hid (∀ j, j < k → ¬ (at' l j).s = s)) (fun i _ => l.length - (intOf i).toNat)
  case atStart => exact ⟨0, Nat.zero_le _, rfl, Boxed.start _ _ _ _, fun j hj => absurd hj (Nat.not_lt_zero _)⟩
  case round =>
    obtain ⟨k, hk, rfl, hx, HA⟩ := hrel
    have x0 := hx.c0
    have x1 := hx.c1
    have HX : Hid (Boxed w wr (.slice a l.length cap) vp) := hx
    clear hx
    by_cases hlt : k < l.length
    · obtain ⟨b, off, rfl, hc⟩ := HC.out k _ (at_get hlt)
      obtain ⟨d0, d1, d2⟩ := hc.keep HX.out.below (Nat.le_refl _)
      have hk0 : (0 : Int) ≤ (k : Int) := by omega
      have hk1 : (k : Int) < (l.length : Int) := by omega
      by_cases hx : (at' l k).s = s
      · have h1 : ((at' l k).s.toList == s.toList) = true := str_eq hx
        have HH : Hid ((at' l k).s = s) := hx
        clear hx
        go_wp2
        go_ret
        exact ⟨ret_int (atI_some hlt HH.out HA.out).symm, HX.out.below⟩
      · have h1 : ((at' l k).s.toList == s.toList) = false := str_ne hx
        have HH : Hid (¬ (at' l k).s = s) := hx
        clear hx
        go_wp2
        exact ⟨⟨k + 1, by omega, by go_num, HX.out, fun j hj => if e : j = k then by rw [e]; exact HH.out else HA.out j (by omega)⟩, by simp [intOf]; omega⟩
    · go_wp2
      go_ret
      exact ⟨ret_int (atI_none fun j hj => HA.out j (by omega)).symm, HX.out.below⟩

set_option maxHeartbeats 800000 in
theorem l1Point_any (vk vp : Value) (l : List Tri) (s : ByteArray) (w : World) (hv : TrisAt w vp l) :
    Calls Try.prog 93 #[.agg #[vk, vp], .string s] w fun e w' => e = .returned (.int .i64 (atI l s)) ∧ Below w.heap.size w w' := by
  obtain ⟨a, cap, rfl, hlc, hcm, hc⟩ := hv
  unfold maxLen at hcm
  have HC : Hid (∀ i t, l[i]? = some t → ∃ b off, a = some ⟨b, off, none⟩ ∧ TriAt w b (off + i * 3) t) := hc
  clear hc
  go_enter Try.func93, Try.ntmps93
  go_wp2
  go_loopw [5] (fun i wr => ∃ k : Nat, k ≤ l.length ∧ i = .int .i64 k ∧ Boxed w wr vk (.slice a l.length cap) ∧ Hid (∀ j, j < k → ¬ (at' l j).s = s)) (fun i _ => l.length - (intOf i).toNat)
  case atStart => exact ⟨0, Nat.zero_le _, rfl, Boxed.start _ _ _ _, fun j hj => absurd hj (Nat.not_lt_zero _)⟩
  case round =>
    obtain ⟨k, hk, rfl, hx, HA⟩ := hrel
    have x0 := hx.c0
    have x1 := hx.c1
    have HX : Hid (Boxed w wr vk (.slice a l.length cap)) := hx
    clear hx
    by_cases hlt : k < l.length
    · obtain ⟨b, off, rfl, hc⟩ := HC.out k _ (at_get hlt)
      obtain ⟨d0, d1, d2⟩ := hc.keep HX.out.below (Nat.le_refl _)
      have hk0 : (0 : Int) ≤ (k : Int) := by omega
      have hk1 : (k : Int) < (l.length : Int) := by omega
      by_cases hx : (at' l k).s = s
      · have h1 : ((at' l k).s.toList == s.toList) = true := str_eq hx
        have HH : Hid ((at' l k).s = s) := hx
        clear hx
        go_wp2
        go_ret
        exact ⟨ret_int (atI_some hlt HH.out HA.out).symm, HX.out.below⟩
      · have h1 : ((at' l k).s.toList == s.toList) = false := str_ne hx
        have HH : Hid (¬ (at' l k).s = s) := hx
        clear hx
        go_wp2
        exact ⟨⟨k + 1, by omega, by go_num, HX.out, fun j hj => if e : j = k then by rw [e]; exact HH.out else HA.out j (by omega)⟩, by simp [intOf]; omega⟩
    · go_wp2
      go_ret
      exact ⟨ret_int (atI_none fun j hj => HA.out j (by omega)).symm, HX.out.below⟩


theorem numV_lt {x : ByteArray} (h : decB x = true) : numV x < 10000000 := by
  have h1 : inB x.size 1 7 = true := by simp only [decB, Bool.and_eq_true] at h; exact h.1
  have h2 : digitsB x = true := by simp only [decB, Bool.and_eq_true] at h; exact h.2.2
  have h3 : x.size ≤ 7 := by simp [inB] at h1; omega
  refine numTo_seven x.size h3 (Nat.le_refl _) fun j hj _ => ?_
  unfold digitsB at h2
  rw [List.all_eq_true] at h2
  exact h2 _ (by simp [ByteArray.getElem_eq_getElem_data])

/-- What l2Number answers. -/
def numI (x : ByteArray) : Int := bif decB x then (numV x : Int) else -1
theorem numI_yes {x : ByteArray} (h : decB x = true) : numI x = numV x := by unfold numI; rw [h]; rfl
theorem numI_no {x : ByteArray} (h : decB x = false) : numI x = -1 := by unfold numI; rw [h]; rfl
theorem time_num (x0 x1 : ByteArray) : (decB x0 && (decB x1 && (decide (numV x0 ≤ numV x1) && decide (numV x1 ≤ 10000)))) = (decide (0 ≤ numI x0) && inB (numI x1) (numI x0) 10000) := by
  cases h0 : decB x0
  · rw [numI_no h0]; rfl
  · rw [numI_yes h0]
    cases h1 : decB x1
    · rw [numI_no h1]; simp [inB]; omega
    · rw [numI_yes h1, Bool.eq_iff_iff]; simp [inB]; omega

set_option maxHeartbeats 1600000 in
theorem l2TimeOk_any (v : Value) (ws : List ByteArray) (w : World) (hv : StrsAt w v ws) (hz : ∀ x ∈ ws, x.size ≤ 1048576) :
    Calls Try.prog 84 #[v] w fun e w' => e = .returned (.bool (timeB ws)) ∧ Below w.heap.size w w' := by
  obtain ⟨g, off, cap, rfl, hlc, hcm, hc⟩ := hv
  unfold maxLen at hcm
  by_cases h2 : ws.length = 2
  · have h2' : (((ws.length : Nat) : Int) == 2) = true := by simp [h2]
    have h2i : (1 : Int) < ((ws.length : Nat) : Int) := by omega
    have h2j : 1 < ws.length := by omega
    have h2k : 0 < ws.length := by omega
    have c0 : w.cell? ⟨g, off, none⟩ = some (.string (wat ws 0)) := by simpa using hc 0 _ (wat_get h2k)
    have c1 : w.cell? ⟨g, off + 1, none⟩ = some (.string (wat ws 1)) := hc 1 _ (wat_get h2j)
    have hg : g < w.heap.size := lt_of_cell c0
    have Z0 : Hid ((wat ws 0).size ≤ 1048576) := hz _ (List.mem_of_getElem? (wat_get h2k))
    have Z1 : Hid ((wat ws 1).size ≤ 1048576) := hz _ (List.mem_of_getElem? (wat_get h2j))
    have HE : Hid (timeB ws = (decB (wat ws 0) && (decB (wat ws 1) && (decide (numV (wat ws 0) ≤ numV (wat ws 1)) && decide (numV (wat ws 1) ≤ 10000))))) := by show timeB ws = _; unfold timeB; simp [h2]
    clear hz hc h2
    generalize wat ws 0 = x0 at *
    generalize wat ws 1 = x1 at *
    have hne := Later.some w
    have GN : Hid (∀ (x : ByteArray), x.size ≤ 1048576 → ∀ y : Later w, Calls Try.prog 85 #[.string x] y.val fun e w'' => e = .returned (.int .i64 (numI x)) ∧ ∃ z : Later w, w'' = z.val) :=
      fun x hx y => Calls.later_same (l2Number_any x y.val (by unfold maxLen; omega))
    have GI : Hid (∀ (a b c : Int) (y : Later w), Calls Try.prog 48 #[.int .i64 a, .int .i64 b, .int .i64 c] y.val fun e w'' => e = .returned (.bool (inB a b c)) ∧ ∃ z : Later w, w'' = z.val) :=
      fun a b c y => Calls.later_same (l1In_any a b c y.val)
    have HE2 : Hid (timeB ws = (decide (0 ≤ numI x0) && inB (numI x1) (numI x0) 10000)) := by
      show timeB ws = _
      rw [HE.out]; exact time_num x0 x1
    clear HE
    by_cases hq : 0 ≤ numI x0
    · have hq' : decide (0 ≤ numI x0) = true := decide_eq_true hq
      have HE : Hid (timeB ws = inB (numI x1) (numI x0) 10000) := by show timeB ws = _; rw [HE2.out, hq']; rfl
      have z0 := Z0.out
      have z1 := Z1.out
      clear HE2 Z0 Z1
      go_enter Try.func84, Try.ntmps84
      go_wp2
      refine wp_region_later (by kernel_rfl) (by kernel_rfl) ?_
      repeat (go_big_quiet_step (first | (go_at_call 85; exact GN.out _ (by assumption) _) | (go_at_call 48; exact GI.out _ _ _ _)))
      refine wpQuiet_nil ?_
      rintro _ ⟨x, rfl⟩
      go_wp2
      go_ret
      exact ⟨ret_bool HE.out.symm, x.below⟩
    · have hq' : decide (0 ≤ numI x0) = false := decide_eq_false hq
      have HE : Hid (timeB ws = false) := by show timeB ws = _; rw [HE2.out, hq']; rfl
      have z0 := Z0.out
      clear HE2 Z0 Z1 hq
      go_enter Try.func84, Try.ntmps84
      go_wp2
      refine wp_region_later (by kernel_rfl) (by kernel_rfl) ?_
      repeat (go_big_quiet_step (first | (go_at_call 85; exact GN.out _ (by assumption) _)))
      refine wpQuiet_nil ?_
      rintro _ ⟨x, rfl⟩
      go_wp2
      go_ret
      exact ⟨ret_bool HE.out.symm, x.below⟩
  · have h2' : (((ws.length : Nat) : Int) == 2) = false := by simp; omega
    have e : timeB ws = false := by unfold timeB; simp [h2]
    have hne := Later.some w
    rw [e]; clear e hc hz
    go_enter Try.func84, Try.ntmps84
    go_wp2
    refine wp_region_later (by kernel_rfl) (by kernel_rfl) ?_
    repeat (go_big_quiet_step (fail))
    refine wpQuiet_nil ?_
    rintro _ ⟨x, rfl⟩
    go_wp2
    go_ret
    exact ⟨rfl, x.below⟩
end Go.Proofs.Ytfjblenkcfdbiaa
