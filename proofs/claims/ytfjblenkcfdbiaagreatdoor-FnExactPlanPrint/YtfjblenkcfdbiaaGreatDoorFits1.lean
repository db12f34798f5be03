
/-
  impl: the rules of what fits.
-/
import Derived.Test.YtfjblenkcfdbiaaGreatDoorFitsB
import Derived.Test.YtfjblenkcfdbiaaGreatDoorLists
namespace Go.Proofs.YtfjblenkcfdbiaaGreatDoor
open Go.RowKit

set_option maxHeartbeats 1600000 in
theorem placeKind_any (v : Value) (l : List Tri) (s : ByteArray) (w : World) (hv : TrisAt w v l) :
    Calls Tryz.prog 130 #[v, .string s, .func (.func 105) #[] #[]] w fun e w' => e = .returned (.tuple #[.int .i64 (plc l s : Nat), .bool (hasB l s)]) ∧ Below w.heap.size w w' := by
  obtain ⟨a, cap, rfl, hlc, hcm, hc⟩ := hv
  unfold maxLen at hcm
  have HC : Hid (∀ i t, l[i]? = some t → ∃ b off, a = some ⟨b, off, none⟩ ∧ TriAt w b (off + i * 3) t) := hc
  clear hc
  go_enter Tryz.func130, Tryz.ntmps130
  go_wp2
  go_loopw [7, 8, 12] (fun _ _ i wr => ∃ k : Nat, k ≤ l.length ∧ i = .int .i64 k ∧ Below w.heap.size w wr ∧ Hid (∀ j, j < k → geB (at' l j).s s = false)) (fun _ _ i _ => l.length - (intOf i).toNat)
  case atStart => exact ⟨0, Nat.zero_le _, rfl, Below.refl _ _, fun j hj => absurd hj (Nat.not_lt_zero _)⟩
  case round =>
    obtain ⟨k, hk, rfl, hb, HA⟩ := hrel
    by_cases hlt : k < l.length
    · obtain ⟨b, off, rfl, hc⟩ := HC.out k _ (at_get hlt)
      obtain ⟨d0, d1, d2⟩ := hc.keep hb (Nat.le_refl _)
      have hk0 : (0 : Int) ≤ (k : Int) := by omega
      have hk1 : (k : Int) < (l.length : Int) := by omega
      go_wp2_with fail
      refine (kindName_any (at' l k) _).mono ?_
      rintro e w1 ⟨rfl, hb1⟩
      have tn : TriAt w1 wr.heap.size 0 (at' l k) := TriAt.keep (w := wr.alloc (.cells #[.string (at' l k).s, .int .i64 (at' l k).x, .int .i64 (at' l k).y] 42)) ⟨by simp, by simp, by simp⟩ hb1 (Nat.le_refl _)
      have HBW : Hid (Below w.heap.size w w1) := below_step (hb.alloc hb.size _) hb1
      obtain ⟨n0, n1, n2⟩ := tn
      clear hb1 d0 d1 d2 hc
      cases hg : geB (at' l k).s s
      · have hg' : Op.bytesLess (at' l k).s.toList s.toList = true := by unfold geB at hg; simpa using hg
        have HG : Hid (geB (at' l k).s s = false) := hg
        clear hg
        go_wp2
        exact ⟨⟨k + 1, by omega, by go_num, HBW.out, fun j hj => if e : j = k then by rw [e]; exact HG.out else HA.out j (by omega)⟩, by simp [intOf]; omega⟩
      · have hg' : Op.bytesLess (at' l k).s.toList s.toList = false := by unfold geB at hg; simpa using hg
        have HG : Hid (geB (at' l k).s s = true) := hg
        have HP : Hid (plc l s = k) := plc_some hlt hg HA.out
        have HH : Hid (hasB l s = decide ((at' l k).s = s)) := hasB_at hlt hg HA.out
        clear hg
        have hq : ((at' l k).s.toList == s.toList) = decide ((at' l k).s = s) := by
          by_cases hx : (at' l k).s = s
          · rw [str_eq hx]; simp [hx]
          · rw [str_ne hx]; simp [hx]
        go_wp2_with fail
        refine (kindName_any (at' l k) _).mono ?_
        rintro e w2 ⟨rfl, hb2⟩
        go_wp2
        go_ret2
        exact ⟨by rw [HP.out, HH.out]; rfl, below_step HBW.out hb2⟩
    · go_wp2
      go_ret2
      exact ⟨by rw [plc_none fun j hj => HA.out j (by omega), hasB_end fun j hj => HA.out j (by omega)]; rfl, hb⟩
set_option maxHeartbeats 1600000 in
theorem placePoint_any (v : Value) (l : List Tri) (s : ByteArray) (w : World) (hv : TrisAt w v l) :
    Calls Tryz.prog 172 #[v, .string s, .func (.func 108) #[] #[]] w fun e w' => e = .returned (.tuple #[.int .i64 (plc l s : Nat), .bool (hasB l s)]) ∧ Below w.heap.size w w' := by
  obtain ⟨a, cap, rfl, hlc, hcm, hc⟩ := hv
  unfold maxLen at hcm
  have HC : Hid (∀ i t, l[i]? = some t → ∃ b off, a = some ⟨b, off, none⟩ ∧ TriAt w b (off + i * 3) t) := hc
  clear hc
  go_enter Tryz.func172, Tryz.ntmps172
  go_wp2
  go_loopw [7, 8, 12] (fun _ _ i wr => ∃ k : Nat, k ≤ l.length ∧ i = .int .i64 k ∧ Below w.heap.size w wr ∧ Hid (∀ j, j < k → geB (at' l j).s s = false)) (fun _ _ i _ => l.length - (intOf i).toNat)
  case atStart => exact ⟨0, Nat.zero_le _, rfl, Below.refl _ _, fun j hj => absurd hj (Nat.not_lt_zero _)⟩
  case round =>
    obtain ⟨k, hk, rfl, hb, HA⟩ := hrel
    by_cases hlt : k < l.length
    · obtain ⟨b, off, rfl, hc⟩ := HC.out k _ (at_get hlt)
      obtain ⟨d0, d1, d2⟩ := hc.keep hb (Nat.le_refl _)
      have hk0 : (0 : Int) ≤ (k : Int) := by omega
      have hk1 : (k : Int) < (l.length : Int) := by omega
      go_wp2_with fail
      refine (pointName_any (at' l k) _).mono ?_
      rintro e w1 ⟨rfl, hb1⟩
      have tn : TriAt w1 wr.heap.size 0 (at' l k) := TriAt.keep (w := wr.alloc (.cells #[.string (at' l k).s, .int .i64 (at' l k).x, .int .i64 (at' l k).y] 57)) ⟨by simp, by simp, by simp⟩ hb1 (Nat.le_refl _)
      have HBW : Hid (Below w.heap.size w w1) := below_step (hb.alloc hb.size _) hb1
      obtain ⟨n0, n1, n2⟩ := tn
      clear hb1 d0 d1 d2 hc
      cases hg : geB (at' l k).s s
      · have hg' : Op.bytesLess (at' l k).s.toList s.toList = true := by unfold geB at hg; simpa using hg
        have HG : Hid (geB (at' l k).s s = false) := hg
        clear hg
        go_wp2
        exact ⟨⟨k + 1, by omega, by go_num, HBW.out, fun j hj => if e : j = k then by rw [e]; exact HG.out else HA.out j (by omega)⟩, by simp [intOf]; omega⟩
      · have hg' : Op.bytesLess (at' l k).s.toList s.toList = false := by unfold geB at hg; simpa using hg
        have HG : Hid (geB (at' l k).s s = true) := hg
        have HP : Hid (plc l s = k) := plc_some hlt hg HA.out
        have HH : Hid (hasB l s = decide ((at' l k).s = s)) := hasB_at hlt hg HA.out
        clear hg
        have hq : ((at' l k).s.toList == s.toList) = decide ((at' l k).s = s) := by
          by_cases hx : (at' l k).s = s
          · rw [str_eq hx]; simp [hx]
          · rw [str_ne hx]; simp [hx]
        go_wp2_with fail
        refine (pointName_any (at' l k) _).mono ?_
        rintro e w2 ⟨rfl, hb2⟩
        go_wp2
        go_ret2
        exact ⟨by rw [HP.out, HH.out]; rfl, below_step HBW.out hb2⟩
    · go_wp2
      go_ret2
      exact ⟨by rw [plc_none fun j hj => HA.out j (by omega), hasB_end fun j hj => HA.out j (by omega)]; rfl, hb⟩

set_option maxHeartbeats 800000 in
theorem kindRule_any (vk vp : Value) (l : List Tri) (s : ByteArray) (w : World) (hv : TrisAt w vk l) :
    Calls Tryz.prog 167 #[.agg #[], .agg #[vk, vp], .string s] w fun e w' => e = .returned (.bool (hasB l s)) ∧ Below w.heap.size w w' := by
  have HV : Hid (TrisAt w vk l) := hv
  obtain ⟨a, cap, rfl, -, -, -⟩ := hv
  go_enter Tryz.func167, Tryz.ntmps167
  go_wp2_with fail
  refine (placeKind_any _ l s _ (HV.out.keep (((Below.refl _ _).alloc (Nat.le_refl _) _).alloc (by simp) _))).mono ?_
  rintro e w1 ⟨rfl, hb1⟩
  go_wp2
  go_ret
  exact ⟨rfl, below_step (((Below.refl _ _).alloc (Nat.le_refl _) _).alloc (by simp) _) hb1⟩

theorem open_list : openS.toList = [111, 112, 101, 110] := by rw [ByteArray.toList_eq]; rfl
theorem closed_list : closedS.toList = [99, 108, 111, 115, 101, 100] := by rw [ByteArray.toList_eq]; rfl

set_option maxHeartbeats 800000 in
theorem stateRule_any (vk vp : Value) (s : ByteArray) (w : World) :
    Calls Tryz.prog 173 #[.agg #[], .agg #[vk, vp], .string s] w fun e w' => e = .returned (.bool (stateB s)) ∧ Below w.heap.size w w' := by
  by_cases h1 : s = openS
  · have e : stateB s = true := by simp [stateB, h1]
    have g1 : (s.toList == [111, 112, 101, 110]) = true := open_list ▸ str_eq h1
    rw [e]; clear e h1
    go_enter Tryz.func173, Tryz.ntmps173
    go_wp2
    go_ret
    exact ⟨rfl, ((Below.refl _ _).alloc (Nat.le_refl _) _).alloc (by simp) _⟩
  · have g1 : (s.toList == [111, 112, 101, 110]) = false := open_list ▸ str_ne h1
    by_cases h2 : s = closedS
    · have e : stateB s = true := by simp [stateB, h2]
      have g2 : (s.toList == [99, 108, 111, 115, 101, 100]) = true := closed_list ▸ str_eq h2
      rw [e]; clear e h1 h2
      go_enter Tryz.func173, Tryz.ntmps173
      go_wp2
      go_ret
      exact ⟨rfl, ((Below.refl _ _).alloc (Nat.le_refl _) _).alloc (by simp) _⟩
    · have e : stateB s = false := by simp [stateB, h1, h2]
      have g2 : (s.toList == [99, 108, 111, 115, 101, 100]) = false := closed_list ▸ str_ne h2
      rw [e]; clear e h1 h2
      go_enter Tryz.func173, Tryz.ntmps173
      go_wp2
      go_ret
      exact ⟨rfl, ((Below.refl _ _).alloc (Nat.le_refl _) _).alloc (by simp) _⟩

set_option maxHeartbeats 800000 in
theorem levelRule_any (vk vp : Value) (s : ByteArray) (w : World) (hs : s.size ≤ 1048576) :
    Calls Tryz.prog 169 #[.agg #[], .agg #[vk, vp], .string s] w fun e w' => e = .returned (.bool (levelB s)) ∧ Below w.heap.size w w' := by
  have HRD : Hid (∀ wx : World, Calls Tryz.prog 118 #[.string s] wx fun e w' => e = .returned (.tuple #[.int .i64 (bif decB s then (numV s : Int) else 0), .bool (decB s)]) ∧ Below wx.heap.size wx w') := fun wx => readDecimal_any s wx (by unfold maxLen; omega)
  cases hd : decB s
  · have e : levelB s = false := by simp [levelB, hd]
    have HD : Hid (decB s = false) := hd
    rw [e]; clear e hd
    go_enter Tryz.func169, Tryz.ntmps169
    go_wp2_with fail
    refine (HRD.out _).mono ?_
    rw [HD.out]
    rintro e w1 ⟨rfl, hb1⟩
    go_wp2
    go_ret
    exact ⟨rfl, below_step (((Below.refl _ _).alloc (Nat.le_refl _) _).alloc (by simp) _) hb1⟩
  · have e : levelB s = inB (numV s) 1 6 := by simp [levelB, hd]
    have HD : Hid (decB s = true) := hd
    rw [e]; clear e hd
    generalize numV s = n at HRD
    by_cases h1 : 1 ≤ (n : Int)
    · by_cases h2 : (n : Int) ≤ 6
      · have e : inB n 1 6 = true := by simp [inB, h1, h2]
        rw [e]; clear e
        go_enter Tryz.func169, Tryz.ntmps169
        go_wp2_with fail
        refine (HRD.out _).mono ?_
        rw [HD.out, cond_true]
        rintro e w1 ⟨rfl, hb1⟩
        go_wp2
        go_ret
        exact ⟨rfl, below_step (((Below.refl _ _).alloc (Nat.le_refl _) _).alloc (by simp) _) hb1⟩
      · have e : inB n 1 6 = false := by simp [inB]; omega
        rw [e]; clear e
        go_enter Tryz.func169, Tryz.ntmps169
        go_wp2_with fail
        refine (HRD.out _).mono ?_
        rw [HD.out, cond_true]
        rintro e w1 ⟨rfl, hb1⟩
        go_wp2
        go_ret
        exact ⟨ret_bool (decide_eq_false (by omega)), below_step (((Below.refl _ _).alloc (Nat.le_refl _) _).alloc (by simp) _) hb1⟩
    · have e : inB n 1 6 = false := by simp [inB]; omega
      rw [e]; clear e
      go_enter Tryz.func169, Tryz.ntmps169
      go_wp2_with fail
      refine (HRD.out _).mono ?_
      rw [HD.out, cond_true]
      rintro e w1 ⟨rfl, hb1⟩
      go_wp2
      go_ret
      exact ⟨rfl, below_step (((Below.refl _ _).alloc (Nat.le_refl _) _).alloc (by simp) _) hb1⟩
end Go.Proofs.YtfjblenkcfdbiaaGreatDoor
