/-
  Joined: Lists, Fits1, Fits2.
-/
import Derived.Test.YtibpkhmiahamcaaGreatNames
import Derived.Test.YtibpkhmiahamcaaGreatFitsB
import Derived.Test.YtibpkhmiahamcaaGreatLater
import Derived.Deep.RegionHeld3
import Derived.Test.YtibpkhmiahamcaaGreatTkH

/-
 impl: kinds and points of a base.
-/
namespace Go.Proofs.YtibpkhmiahamcaaGreat
open Go.RowKit

set_option maxHeartbeats 1600000 in
theorem kindsOk_any (v : Value) (l : List Tri) (w : World) (hv : TrisAt w v l) (hs : ∀ t ∈ l, t.s.size ≤ maxLen) :
  Calls Tryz.prog 66 #[v] w fun e w' => e = .returned (.bool (kindsB l)) ∧ Below w.heap.size w w' := by
 have hnm := fun wx hvx => namesKind_any v l 6 wx hvx hs (by omega)
 have HNM : Hid (∀ (wx : World), TrisAt wx v l → Calls Tryz.prog 87 #[v, .int .i64 (6 : Nat), .func (.func 88) #[] #[]] wx fun e w' => e = .returned (.bool (namesB l 6)) ∧ Below wx.heap.size wx w') := hnm
 clear hnm
 have HV : Hid (TrisAt w v l) := hv
 obtain ⟨a, cap, rfl, hlc, hcm, hc⟩ := hv
 unfold maxLen at hcm
 have HC : Hid (∀ i t, l[i]? = some t → ∃ b off, a = some ⟨b, off, none⟩ ∧ TriAt w b (off + i * 3) t) := hc
 clear hc
 cases hn : namesB l 6
 ·have e : kindsB l = false := by simp [kindsB, hn]
  have HN : Hid (namesB l 6 = false) := hn
  rw [e]; clear e hn
  go_enter Tryz.func66, Tryz.ntmps66
  go_wp2_with fail
  refine (HNM.out _ HV.out).mono ?_
  rw [HN.out]
  rintro e w1 ⟨rfl, hb1⟩
  go_wp2
  go_ret
  exact ⟨rfl, hb1⟩
 ·have e : kindsB l = allB l.length fun i => paceB (at' l i) := by simp [kindsB, hn]
  have HN : Hid (namesB l 6 = true) := hn
  rw [e]; clear e hn
  go_enter Tryz.func66, Tryz.ntmps66
  go_wp2_with fail
  refine (HNM.out _ HV.out).mono ?_
  rw [HN.out]
  rintro e w1 ⟨rfl, hb1⟩
  go_wp2
  go_loopw [4, 10] (fun _ i wr => ∃ k : Nat, k ≤ l.length ∧ i = .int .i64 k ∧ Below w.heap.size w wr ∧ Hid (∀ j, j < k → paceB (at' l j) = true)) (fun _ i _ => l.length - (intOf i).toNat)
  case atStart => exact ⟨0, Nat.zero_le _, rfl, hb1, fun j hj => absurd hj (Nat.not_lt_zero _)⟩
  case round =>
   obtain ⟨k, hk, rfl, hb, HA⟩ := hrel
   by_cases hlt : k < l.length
   ·obtain ⟨b, off, rfl, hc⟩ := HC.out k _ (at_get hlt)
    obtain ⟨d0, d1, d2⟩ := hc.keep hb (Nat.le_refl _)
    have BAD : Hid (paceB (at' l k) = false → allB l.length (fun i => paceB (at' l i)) = false) := fun h => allB_false hlt h
    have hk0 : (0 : Int) ≤ (k : Int) := by omega
    have hk1 : (k : Int) < (l.length : Int) := by omega
    cases hp : paceB (at' l k)
    ·have HP : Hid (paceB (at' l k) = false) := hp
     clear hp
     go_wp2_with fail
     refine (paceOk_any (at' l k) _).mono ?_
     rw [HP.out]
     rintro e w2 ⟨rfl, hb2⟩
     go_wp2
     go_ret
     exact ⟨ret_bool (BAD.out HP.out).symm, below_step (hb.alloc hb.size _) hb2⟩
    ·have HP : Hid (paceB (at' l k) = true) := hp
     clear hp
     go_wp2_with fail
     refine (paceOk_any (at' l k) _).mono ?_
     rw [HP.out]
     rintro e w2 ⟨rfl, hb2⟩
     go_wp2
     exact ⟨⟨k + 1, by omega, by go_num, below_step (hb.alloc hb.size _) hb2, fun j hj => if e : j = k then by rw [e]; exact HP.out else HA.out j (by omega)⟩, by simp [intOf]; omega⟩
   ·go_wp2
    go_ret
    exact ⟨ret_bool (allB_true fun j hj => HA.out j (by omega)).symm, hb⟩

set_option maxHeartbeats 1600000 in
theorem cellTaken_any (v : Value) (l : List Tri) (t : Tri) (w : World) (hv : TrisAt w v l) :
  Calls Tryz.prog 93 #[v, .agg #[.string t.s, .int .i64 t.x, .int .i64 t.y]] w fun e w' => e = .returned (.bool (takenB l l.length t)) ∧ Below w.heap.size w w' := by
 obtain ⟨a, cap, rfl, hlc, hcm, hc⟩ := hv
 unfold maxLen at hcm
 have HC : Hid (∀ i t, l[i]? = some t → ∃ b off, a = some ⟨b, off, none⟩ ∧ TriAt w b (off + i * 3) t) := hc
 clear hc
 go_enter Tryz.func93, Tryz.ntmps93
 go_wp2
 go_loopw [6, 9] (fun _ i wr => ∃ k : Nat, k ≤ l.length ∧ i = .int .i64 k ∧ Below (w.heap.size + 1) (w.alloc (.cells #[.string t.s, .int .i64 t.x, .int .i64 t.y] 109)) wr ∧ Hid (∀ j, j < k → (!sameB (at' l j) t) = true)) (fun _ i _ => l.length - (intOf i).toNat)
 case atStart => exact ⟨0, Nat.zero_le _, rfl, Below.refl _ _, fun j hj => absurd hj (Nat.not_lt_zero _)⟩
 case round =>
  obtain ⟨k, hk, rfl, hb, HA⟩ := hrel
  have hbw : Below w.heap.size w wr := ((Below.refl _ _).alloc (Nat.le_refl _) _).trans (hb.mono (Nat.le_succ _))
  have hsz : w.heap.size < wr.heap.size := by have := hb.size; simp at this; omega
  have p1 : wr.cell? ⟨w.heap.size, 1, none⟩ = some (.int .i64 t.x) := by rw [hb.cell (p := ⟨w.heap.size, 1, none⟩) (Nat.lt_succ_self _)]; simp
  have p2 : wr.cell? ⟨w.heap.size, 2, none⟩ = some (.int .i64 t.y) := by rw [hb.cell (p := ⟨w.heap.size, 2, none⟩) (Nat.lt_succ_self _)]; simp
  by_cases hlt : k < l.length
  ·obtain ⟨b, off, rfl, hc⟩ := HC.out k _ (at_get hlt)
   obtain ⟨d0, d1, d2⟩ := hc.keep hbw (Nat.le_refl _)
   have BAD : Hid ((!sameB (at' l k) t) = false → takenB l l.length t = true) := fun h => by unfold takenB; rw [allB_false hlt h]; rfl
   have hk0 : (0 : Int) ≤ (k : Int) := by omega
   have hk1 : (k : Int) < (l.length : Int) := by omega
   have hfin : Hid (Below (w.heap.size + 1) (w.alloc (.cells #[.string t.s, .int .i64 t.x, .int .i64 t.y] 109)) (wr.alloc (.cells #[.string (at' l k).s, .int .i64 (at' l k).x, .int .i64 (at' l k).y] 109))) := hb.alloc (by omega) _
   have hfin' : Hid (Below w.heap.size w (wr.alloc (.cells #[.string (at' l k).s, .int .i64 (at' l k).x, .int .i64 (at' l k).y] 109))) := hbw.alloc (by omega) _
   have SM : Hid (sameB (at' l k) t = (decide ((at' l k).x = t.x) && decide ((at' l k).y = t.y))) := rfl
   by_cases hx : (at' l k).x = t.x
   ·have hx' : ((at' l k).x == t.x) = true := by simp [hx]
    have HX : Hid ((at' l k).x = t.x) := hx
    clear hx
    by_cases hy : (at' l k).y = t.y
    ·have hy' : ((at' l k).y == t.y) = true := by simp [hy]
     have HY : Hid ((at' l k).y = t.y) := hy
     clear hy
     go_wp2
     go_ret
     exact ⟨ret_bool (BAD.out (by rw [SM.out, HX.out, HY.out]; simp)).symm, hfin'.out⟩
    ·have hy' : ((at' l k).y == t.y) = false := by simp [hy]
     have HY : Hid (¬ (at' l k).y = t.y) := hy
     clear hy
     go_wp2
     exact ⟨⟨k + 1, by omega, by go_num, hfin.out, fun j hj => if e : j = k then by rw [e, SM.out]; simp [HY.out] else HA.out j (by omega)⟩, by simp [intOf]; omega⟩
   ·have hx' : ((at' l k).x == t.x) = false := by simp [hx]
    have HX : Hid (¬ (at' l k).x = t.x) := hx
    clear hx
    go_wp2
    exact ⟨⟨k + 1, by omega, by go_num, hfin.out, fun j hj => if e : j = k then by rw [e, SM.out]; simp [HX.out] else HA.out j (by omega)⟩, by simp [intOf]; omega⟩
  ·go_wp2
   go_ret
   exact ⟨ret_bool (by unfold takenB; rw [allB_true fun j hj => HA.out j (by omega)]; rfl), hbw⟩

theorem taken_take (l : List Tri) (i : Nat) (h : i ≤ l.length) (t : Tri) : takenB (l.take i) (l.take i).length t = takenB l i t := by
 unfold takenB
 rw [List.length_take, Nat.min_eq_left h]
 congr 1
 refine allB_congr fun j hj => ?_
 simp [at', List.getD, hj]

theorem TrisAt.take {w : World} {a : Option Addr} {l : List Tri} {cap : Nat} (h : TrisAt w (.slice a l.length cap) l) (i : Nat) (hi : i ≤ l.length) : TrisAt w (.slice a i cap) (l.take i) := by
 obtain ⟨a', cap', he, h1, h2, h3⟩ := h
 cases he
 have hl : (l.take i).length = i := by rw [List.length_take, Nat.min_eq_left hi]
 refine ⟨a, cap, by rw [hl], by omega, h2, fun j t ht => h3 j t ?_⟩
 have hj : j < (l.take i).length := (List.getElem?_eq_some_iff.1 ht).1
 rw [List.getElem?_take] at ht
 rw [hl] at hj
 simpa [hj] using ht
end Go.Proofs.YtibpkhmiahamcaaGreat

/-
 impl: the rules of what fits.
-/
namespace Go.Proofs.YtibpkhmiahamcaaGreat
open Go.RowKit

set_option maxHeartbeats 1600000 in
theorem placeKind_any (v : Value) (l : List Tri) (s : ByteArray) (w : World) (hv : TrisAt w v l) :
  Calls Tryz.prog 139 #[v, .string s, .func (.func 88) #[] #[]] w fun e w' => e = .returned (.tuple #[.int .i64 (plc l s : Nat), .bool (hasB l s)]) ∧ Below w.heap.size w w' := by
 obtain ⟨a, cap, rfl, hlc, hcm, hc⟩ := hv
 unfold maxLen at hcm
 have HC : Hid (∀ i t, l[i]? = some t → ∃ b off, a = some ⟨b, off, none⟩ ∧ TriAt w b (off + i * 3) t) := hc
 clear hc
 go_enter Tryz.func139, Tryz.ntmps139
 go_wp2
 go_loopw [7, 8, 12] (fun _ _ i wr => ∃ k : Nat, k ≤ l.length ∧ i = .int .i64 k ∧ Below w.heap.size w wr ∧ Hid (∀ j, j < k → geB (at' l j).s s = false)) (fun _ _ i _ => l.length - (intOf i).toNat)
 case atStart => exact ⟨0, Nat.zero_le _, rfl, Below.refl _ _, fun j hj => absurd hj (Nat.not_lt_zero _)⟩
 case round =>
  obtain ⟨k, hk, rfl, hb, HA⟩ := hrel
  by_cases hlt : k < l.length
  ·obtain ⟨b, off, rfl, hc⟩ := HC.out k _ (at_get hlt)
   obtain ⟨d0, d1, d2⟩ := hc.keep hb (Nat.le_refl _)
   have hk0 : (0 : Int) ≤ (k : Int) := by omega
   have hk1 : (k : Int) < (l.length : Int) := by omega
   go_wp2_with fail
   refine (kindName_any (at' l k) _).mono ?_
   rintro e w1 ⟨rfl, hb1⟩
   have tn : TriAt w1 wr.heap.size 0 (at' l k) := TriAt.keep (w := wr.alloc (.cells #[.string (at' l k).s, .int .i64 (at' l k).x, .int .i64 (at' l k).y] 107)) ⟨by simp, by simp, by simp⟩ hb1 (Nat.le_refl _)
   have HBW : Hid (Below w.heap.size w w1) := below_step (hb.alloc hb.size _) hb1
   obtain ⟨n0, n1, n2⟩ := tn
   clear hb1 d0 d1 d2 hc
   cases hg : geB (at' l k).s s
   ·have hg' : Op.bytesLess (at' l k).s.toList s.toList = true := by unfold geB at hg; simpa using hg
    have HG : Hid (geB (at' l k).s s = false) := hg
    clear hg
    go_wp2
    exact ⟨⟨k + 1, by omega, by go_num, HBW.out, fun j hj => if e : j = k then by rw [e]; exact HG.out else HA.out j (by omega)⟩, by simp [intOf]; omega⟩
   ·have hg' : Op.bytesLess (at' l k).s.toList s.toList = false := by unfold geB at hg; simpa using hg
    have HG : Hid (geB (at' l k).s s = true) := hg
    have HP : Hid (plc l s = k) := plc_some hlt hg HA.out
    have HH : Hid (hasB l s = decide ((at' l k).s = s)) := hasB_at hlt hg HA.out
    clear hg
    have hq : ((at' l k).s.toList == s.toList) = decide ((at' l k).s = s) := by
     by_cases hx : (at' l k).s = s
     ·rw [str_eq hx]; simp [hx]
     ·rw [str_ne hx]; simp [hx]
    go_wp2_with fail
    refine (kindName_any (at' l k) _).mono ?_
    rintro e w2 ⟨rfl, hb2⟩
    go_wp2
    go_ret2
    exact ⟨by rw [HP.out, HH.out]; rfl, below_step HBW.out hb2⟩
  ·go_wp2
   go_ret2
   exact ⟨by rw [plc_none fun j hj => HA.out j (by omega), hasB_end fun j hj => HA.out j (by omega)]; rfl, hb⟩
set_option maxHeartbeats 1600000 in
theorem placePoint_any (v : Value) (l : List Tri) (s : ByteArray) (w : World) (hv : TrisAt w v l) :
  Calls Tryz.prog 147 #[v, .string s, .func (.func 91) #[] #[]] w fun e w' => e = .returned (.tuple #[.int .i64 (plc l s : Nat), .bool (hasB l s)]) ∧ Below w.heap.size w w' := by
 obtain ⟨a, cap, rfl, hlc, hcm, hc⟩ := hv
 unfold maxLen at hcm
 have HC : Hid (∀ i t, l[i]? = some t → ∃ b off, a = some ⟨b, off, none⟩ ∧ TriAt w b (off + i * 3) t) := hc
 clear hc
 go_enter Tryz.func147, Tryz.ntmps147
 go_wp2
 go_loopw [7, 8, 12] (fun _ _ i wr => ∃ k : Nat, k ≤ l.length ∧ i = .int .i64 k ∧ Below w.heap.size w wr ∧ Hid (∀ j, j < k → geB (at' l j).s s = false)) (fun _ _ i _ => l.length - (intOf i).toNat)
 case atStart => exact ⟨0, Nat.zero_le _, rfl, Below.refl _ _, fun j hj => absurd hj (Nat.not_lt_zero _)⟩
 case round =>
  obtain ⟨k, hk, rfl, hb, HA⟩ := hrel
  by_cases hlt : k < l.length
  ·obtain ⟨b, off, rfl, hc⟩ := HC.out k _ (at_get hlt)
   obtain ⟨d0, d1, d2⟩ := hc.keep hb (Nat.le_refl _)
   have hk0 : (0 : Int) ≤ (k : Int) := by omega
   have hk1 : (k : Int) < (l.length : Int) := by omega
   go_wp2_with fail
   refine (pointName_any (at' l k) _).mono ?_
   rintro e w1 ⟨rfl, hb1⟩
   have tn : TriAt w1 wr.heap.size 0 (at' l k) := TriAt.keep (w := wr.alloc (.cells #[.string (at' l k).s, .int .i64 (at' l k).x, .int .i64 (at' l k).y] 109)) ⟨by simp, by simp, by simp⟩ hb1 (Nat.le_refl _)
   have HBW : Hid (Below w.heap.size w w1) := below_step (hb.alloc hb.size _) hb1
   obtain ⟨n0, n1, n2⟩ := tn
   clear hb1 d0 d1 d2 hc
   cases hg : geB (at' l k).s s
   ·have hg' : Op.bytesLess (at' l k).s.toList s.toList = true := by unfold geB at hg; simpa using hg
    have HG : Hid (geB (at' l k).s s = false) := hg
    clear hg
    go_wp2
    exact ⟨⟨k + 1, by omega, by go_num, HBW.out, fun j hj => if e : j = k then by rw [e]; exact HG.out else HA.out j (by omega)⟩, by simp [intOf]; omega⟩
   ·have hg' : Op.bytesLess (at' l k).s.toList s.toList = false := by unfold geB at hg; simpa using hg
    have HG : Hid (geB (at' l k).s s = true) := hg
    have HP : Hid (plc l s = k) := plc_some hlt hg HA.out
    have HH : Hid (hasB l s = decide ((at' l k).s = s)) := hasB_at hlt hg HA.out
    clear hg
    have hq : ((at' l k).s.toList == s.toList) = decide ((at' l k).s = s) := by
     by_cases hx : (at' l k).s = s
     ·rw [str_eq hx]; simp [hx]
     ·rw [str_ne hx]; simp [hx]
    go_wp2_with fail
    refine (pointName_any (at' l k) _).mono ?_
    rintro e w2 ⟨rfl, hb2⟩
    go_wp2
    go_ret2
    exact ⟨by rw [HP.out, HH.out]; rfl, below_step HBW.out hb2⟩
  ·go_wp2
   go_ret2
   exact ⟨by rw [plc_none fun j hj => HA.out j (by omega), hasB_end fun j hj => HA.out j (by omega)]; rfl, hb⟩

set_option maxHeartbeats 800000 in
theorem kindRule_any (vk vp : Value) (l : List Tri) (s : ByteArray) (w : World) (hv : TrisAt w vk l) :
  Calls Tryz.prog 138 #[.agg #[], .agg #[vk, vp], .string s] w fun e w' => e = .returned (.bool (hasB l s)) ∧ Below w.heap.size w w' := by
 have HV : Hid (TrisAt w vk l) := hv
 obtain ⟨a, cap, rfl, -, -, -⟩ := hv
 go_enter Tryz.func138, Tryz.ntmps138
 go_wp2_with fail
 refine (placeKind_any _ l s _ (HV.out.keep (((Below.refl _ _).alloc (Nat.le_refl _) _).alloc (by simp) _))).mono ?_
 rintro e w1 ⟨rfl, hb1⟩
 go_wp2
 go_ret
 exact ⟨rfl, below_step (((Below.refl _ _).alloc (Nat.le_refl _) _).alloc (by simp) _) hb1⟩

theorem open_list : openS.toList = [111, 112, 101, 110] := by rw [ByteArray.toList_eq]; rfl
theorem closed_list : closedS.toList = [99, 108, 111, 115, 101, 100] := by rw [ByteArray.toList_eq]; rfl

set_option maxHeartbeats 800000 in
theorem stateRule_any (vk vp : Value) (s : ByteArray) (w : World) :
  Calls Tryz.prog 148 #[.agg #[], .agg #[vk, vp], .string s] w fun e w' => e = .returned (.bool (stateB s)) ∧ Below w.heap.size w w' := by
 by_cases h1 : s = openS
 ·have e : stateB s = true := by simp [stateB, h1]
  have g1 : (s.toList == [111, 112, 101, 110]) = true := open_list ▸ str_eq h1
  rw [e]; clear e h1
  go_enter Tryz.func148, Tryz.ntmps148
  go_wp2
  go_ret
  exact ⟨rfl, ((Below.refl _ _).alloc (Nat.le_refl _) _).alloc (by simp) _⟩
 ·have g1 : (s.toList == [111, 112, 101, 110]) = false := open_list ▸ str_ne h1
  by_cases h2 : s = closedS
  ·have e : stateB s = true := by simp [stateB, h2]
   have g2 : (s.toList == [99, 108, 111, 115, 101, 100]) = true := closed_list ▸ str_eq h2
   rw [e]; clear e h1 h2
   go_enter Tryz.func148, Tryz.ntmps148
   go_wp2
   go_ret
   exact ⟨rfl, ((Below.refl _ _).alloc (Nat.le_refl _) _).alloc (by simp) _⟩
  ·have e : stateB s = false := by simp [stateB, h1, h2]
   have g2 : (s.toList == [99, 108, 111, 115, 101, 100]) = false := closed_list ▸ str_ne h2
   rw [e]; clear e h1 h2
   go_enter Tryz.func148, Tryz.ntmps148
   go_wp2
   go_ret
   exact ⟨rfl, ((Below.refl _ _).alloc (Nat.le_refl _) _).alloc (by simp) _⟩

set_option maxHeartbeats 800000 in
theorem levelRule_any (vk vp : Value) (s : ByteArray) (w : World) (hs : s.size ≤ 1048576) :
  Calls Tryz.prog 144 #[.agg #[], .agg #[vk, vp], .string s] w fun e w' => e = .returned (.bool (levelB s)) ∧ Below w.heap.size w w' := by
 have HRD : Hid (∀ wx : World, Calls Tryz.prog 143 #[.string s] wx fun e w' => e = .returned (.tuple #[.int .i64 (bif decB s then (numV s : Int) else 0), .bool (decB s)]) ∧ Below wx.heap.size wx w') := fun wx => readDecimal_any s wx (by unfold maxLen; omega)
 cases hd : decB s
 ·have e : levelB s = false := by simp [levelB, hd]
  have HD : Hid (decB s = false) := hd
  rw [e]; clear e hd
  go_enter Tryz.func144, Tryz.ntmps144
  go_wp2_with fail
  refine (HRD.out _).mono ?_
  rw [HD.out]
  rintro e w1 ⟨rfl, hb1⟩
  go_wp2
  go_ret
  exact ⟨rfl, below_step (((Below.refl _ _).alloc (Nat.le_refl _) _).alloc (by simp) _) hb1⟩
 ·have e : levelB s = inB (numV s) 1 6 := by simp [levelB, hd]
  have HD : Hid (decB s = true) := hd
  rw [e]; clear e hd
  generalize numV s = n at HRD
  by_cases h1 : 1 ≤ (n : Int)
  ·by_cases h2 : (n : Int) ≤ 6
   ·have e : inB n 1 6 = true := by simp [inB, h1, h2]
    rw [e]; clear e
    go_enter Tryz.func144, Tryz.ntmps144
    go_wp2_with fail
    refine (HRD.out _).mono ?_
    rw [HD.out, cond_true]
    rintro e w1 ⟨rfl, hb1⟩
    go_wp2
    go_ret
    exact ⟨rfl, below_step (((Below.refl _ _).alloc (Nat.le_refl _) _).alloc (by simp) _) hb1⟩
   ·have e : inB n 1 6 = false := by simp [inB]; omega
    rw [e]; clear e
    go_enter Tryz.func144, Tryz.ntmps144
    go_wp2_with fail
    refine (HRD.out _).mono ?_
    rw [HD.out, cond_true]
    rintro e w1 ⟨rfl, hb1⟩
    go_wp2
    go_ret
    exact ⟨ret_bool (decide_eq_false (by omega)), below_step (((Below.refl _ _).alloc (Nat.le_refl _) _).alloc (by simp) _) hb1⟩
  ·have e : inB n 1 6 = false := by simp [inB]; omega
   rw [e]; clear e
   go_enter Tryz.func144, Tryz.ntmps144
   go_wp2_with fail
   refine (HRD.out _).mono ?_
   rw [HD.out, cond_true]
   rintro e w1 ⟨rfl, hb1⟩
   go_wp2
   go_ret
   exact ⟨rfl, below_step (((Below.refl _ _).alloc (Nat.le_refl _) _).alloc (by simp) _) hb1⟩
end Go.Proofs.YtibpkhmiahamcaaGreat

/-
 impl: the rules of times and routes.
-/
namespace Go.Proofs.YtibpkhmiahamcaaGreat
open Go.RowKit
set_option linter.unusedSimpArgs false
set_option linter.unusedVariables false
attribute [local go_sem] Later.cell Later.frozen

theorem StrsAt.cell {w : World} {g off n cap : Nat} {ws : List ByteArray} (h : StrsAt w (.slice (some ⟨g, off, none⟩) n cap) ws) (i : Nat) (hi : i < ws.length) : w.cell? ⟨g, off + i, none⟩ = some (.string (wat ws i)) := by
 obtain ⟨g', off', cap', e, _, _, hc⟩ := h
 cases e
 exact hc i _ (wat_get hi)

def rdN (x : ByteArray) : Int := bif decB x then (numV x : Int) else 0
def tmF (ws : List ByteArray) : Int := bif decide (ws.length = 2) then rdN (wat ws 0) else 0
def tmY (ws : List ByteArray) : Int := bif decide (ws.length = 2) then rdN (wat ws 1) else 0
def tmO (ws : List ByteArray) : Bool := decide (ws.length = 2) && (decB (wat ws 0) && decB (wat ws 1))
theorem timeB_tm (ws : List ByteArray) : timeB ws = (tmO ws && (decide (tmF ws ≤ tmY ws) && decide (tmY ws ≤ 10000))) := by
 unfold timeB tmO tmF tmY rdN
 by_cases h : ws.length = 2
 ·have e1 : decide (((numV (wat ws 0) : Nat) : Int) ≤ ((numV (wat ws 1) : Nat) : Int)) = decide (numV (wat ws 0) ≤ numV (wat ws 1)) := by rw [Bool.eq_iff_iff]; simp
  have e2 : decide (((numV (wat ws 1) : Nat) : Int) ≤ 10000) = decide (numV (wat ws 1) ≤ 10000) := by rw [Bool.eq_iff_iff]; simp; omega
  simp only [h, decide_true, Bool.true_and, cond_true]
  cases decB (wat ws 0) <;> cases decB (wat ws 1) <;> simp only [cond_true, cond_false, e1, e2, Bool.true_and, Bool.false_and, Bool.and_false]
 ·simp [h]

set_option maxHeartbeats 1600000 in
theorem readTimes_any (s : ByteArray) (w : World) (hs : s.size ≤ 1048576) :
  Calls Tryz.prog 141 #[.string s] w fun e w' => e = .returned (.tuple #[.int .i64 (tmF (cutW s)), .int .i64 (tmY (cutW s)), .bool (tmO (cutW s))]) ∧ Below w.heap.size w w' := by
 have HRD : Hid (∀ (x : ByteArray) (wx : World), x.size ≤ s.size → Calls Tryz.prog 143 #[.string x] wx fun e w' => e = .returned (.tuple #[.int .i64 (rdN x), .bool (decB x)]) ∧ Below wx.heap.size wx w') := fun x wx hx => readDecimal_any x wx (by unfold maxLen; omega)
 have HSZ : Hid (∀ i, i < (cutW s).length → (wat (cutW s) i).size ≤ s.size) := fun i hi => wat_size hi
 have HWD : Hid (∀ wx : World, Calls Tryz.prog 142 #[.string s] wx fun e w' => ∃ v, e = .returned v ∧ StrsAt w' v (cutW s) ∧ Below wx.heap.size wx w') := fun wx => wordsOf_any s wx hs
 generalize cutW s = ws at *
 go_enter Tryz.func141, Tryz.ntmps141
 go_wp2_with fail
 refine (HWD.out _).mono ?_
 rintro e w1 ⟨v, rfl, hst, hb1⟩
 have HST : Hid (StrsAt w1 v ws) := hst
 obtain ⟨g, off, cap, rfl, hlc, hcm, -⟩ := hst
 have HB1 : Hid (Below w.heap.size w w1) := hb1
 clear hb1
 by_cases h2 : ws.length = 2
 ·have h2' : (((ws.length : Nat) : Int) == 2) = true := by simp [h2]
  have h2i : (1 : Int) < ((ws.length : Nat) : Int) := by omega
  have h2j : 1 < ws.length := by omega
  have h2k : 0 < ws.length := by omega
  have c0 : w1.cell? ⟨g, off + 0, none⟩ = some (.string (wat ws 0)) := HST.out.cell 0 (by omega)
  have c1 : w1.cell? ⟨g, off + 1, none⟩ = some (.string (wat ws 1)) := HST.out.cell 1 (by omega)
  simp only [Nat.add_zero] at c0
  have HF : Hid (tmF ws = rdN (wat ws 0)) := by show tmF ws = _; unfold tmF; simp [h2]
  have HY : Hid (tmY ws = rdN (wat ws 1)) := by show tmY ws = _; unfold tmY; simp [h2]
  have HO : Hid (tmO ws = (decB (wat ws 0) && decB (wat ws 1))) := by show tmO ws = _; unfold tmO; simp [h2]
  have Z0 : Hid ((wat ws 0).size ≤ s.size) := HSZ.out 0 (by omega)
  have Z1 : Hid ((wat ws 1).size ≤ s.size) := HSZ.out 1 (by omega)
  clear HST HSZ h2 HWD
  generalize wat ws 0 = x0 at *
  generalize wat ws 1 = x1 at *
  go_wp2_with fail
  refine (HRD.out x0 _ Z0.out).mono ?_
  rintro e w2 ⟨rfl, hb2⟩
  have d1 := cell_keep hb2 (Nat.le_refl _) c1
  go_wp2_with fail
  refine (HRD.out x1 _ Z1.out).mono ?_
  rintro e w3 ⟨rfl, hb3⟩
  have HB : Hid (Below w.heap.size w w3) := below_step (below_step HB1.out hb2) hb3
  clear hb2 hb3 HRD c0 c1 d1
  generalize decB x0 = b0 at *
  generalize decB x1 = b1 at *
  cases b0
  ·go_wp2
   exact bodyPost_ret (v := .tuple #[.int .i64 (rdN x0), .int .i64 (rdN x1), .bool false]) (by simp [results, Tryz.results141, go_sem]) rfl ⟨by rw [HF.out, HY.out, HO.out]; rfl, HB.out⟩
  ·cases b1
   ·go_wp2
    exact bodyPost_ret (v := .tuple #[.int .i64 (rdN x0), .int .i64 (rdN x1), .bool false]) (by simp [results, Tryz.results141, go_sem]) rfl ⟨by rw [HF.out, HY.out, HO.out]; rfl, HB.out⟩
   ·go_wp2
    exact bodyPost_ret (v := .tuple #[.int .i64 (rdN x0), .int .i64 (rdN x1), .bool true]) (by simp [results, Tryz.results141, go_sem]) rfl ⟨by rw [HF.out, HY.out, HO.out]; rfl, HB.out⟩
 ·have h2' : (((ws.length : Nat) : Int) == 2) = false := by simp; omega
  have HF : Hid (tmF ws = 0) := by show tmF ws = _; unfold tmF; simp [h2]
  have HY : Hid (tmY ws = 0) := by show tmY ws = _; unfold tmY; simp [h2]
  have HO : Hid (tmO ws = false) := by show tmO ws = _; unfold tmO; simp [h2]
  go_wp2
  exact bodyPost_ret (v := .tuple #[.int .i64 (0), .int .i64 (0), .bool false]) (by simp [results, Tryz.results141, go_sem]) rfl ⟨by rw [HF.out, HY.out, HO.out], HB1.out⟩

set_option maxHeartbeats 1600000 in
theorem timeRule_any (vk vp : Value) (s : ByteArray) (w : World) (hs : s.size ≤ 1048576) :
  Calls Tryz.prog 140 #[.agg #[], .agg #[vk, vp], .string s] w fun e w' => e = .returned (.bool (timeB (cutW s))) ∧ Below w.heap.size w w' := by
 have HRT := fun wx => readTimes_any s wx hs
 have HE : Hid (timeB (cutW s) = (tmO (cutW s) && (decide (tmF (cutW s) ≤ tmY (cutW s)) && decide (tmY (cutW s) ≤ 10000)))) := timeB_tm _
 have HR : Hid (∀ wx : World, Calls Tryz.prog 141 #[.string s] wx fun e w' => e = .returned (.tuple #[.int .i64 (tmF (cutW s)), .int .i64 (tmY (cutW s)), .bool (tmO (cutW s))]) ∧ Below wx.heap.size wx w') := HRT
 clear HRT
 generalize timeB (cutW s) = r at *
 generalize tmO (cutW s) = o at *
 generalize tmF (cutW s) = n0 at *
 generalize tmY (cutW s) = n1 at *
 go_enter Tryz.func140, Tryz.ntmps140
 go_wp2_with fail
 refine (HR.out _).mono ?_
 rintro e w1 ⟨rfl, hb1⟩
 have HB : Hid (Below w.heap.size w w1) := below_step (((Below.refl _ _).alloc (Nat.le_refl _) _).alloc (by simp) _) hb1
 clear hb1
 cases o
 ·go_wp2
  go_ret
  exact ⟨ret_bool (by rw [HE.out]; rfl), HB.out⟩
 ·by_cases h3 : n0 ≤ n1
  ·by_cases h4 : n1 ≤ 10000
   ·go_wp2
    go_ret
    exact ⟨ret_bool (by rw [HE.out]; simp; omega), HB.out⟩
   ·go_wp2
    go_ret
    exact ⟨ret_bool (by rw [HE.out]; simp; omega), HB.out⟩
  ·go_wp2
   go_ret
   exact ⟨ret_bool (by rw [HE.out]; simp; omega), HB.out⟩

theorem routeB_no {ps : List Tri} {ws : List ByteArray} (h : inB ws.length 2 8 = false) : routeB ps ws = false := by unfold routeB; rw [h]; rfl
theorem routeB_yes {ps : List Tri} {ws : List ByteArray} (h : inB ws.length 2 8 = true) : routeB ps ws = allB ws.length (stepB ps ws) := by unfold routeB; rw [h]; rfl

set_option maxHeartbeats 1600000 in
theorem routeFits_any (vk vp v : Value) (ps : List Tri) (ws : List ByteArray) (w : World) (hp : TrisAt w vp ps) (hst0 : StrsAt w v ws) :
  Calls Tryz.prog 146 #[.agg #[vk, vp], v] w fun e w' => e = .returned (.bool (routeB ps ws)) ∧ Below w.heap.size w w' := by
 have HHP : Hid (∀ (x : ByteArray) (wx : World), Below w.heap.size w wx → Calls Tryz.prog 147 #[vp, .string x, .func (.func 91) #[] #[]] wx fun e w' => e = .returned (.tuple #[.int .i64 (plc ps x : Nat), .bool (hasB ps x)]) ∧ Below wx.heap.size wx w') := fun x wx hx => placePoint_any vp ps x wx (hp.keep hx)
 clear hp
 have HB1 : Hid (Below w.heap.size w (w.alloc (.cells #[vk, vp] 26))) := (Below.refl _ _).alloc (Nat.le_refl _) _
 have hst := hst0.keep HB1.out
 have HST : Hid (StrsAt (w.alloc (.cells #[vk, vp] 26)) v ws) := hst
 clear hst0
 obtain ⟨g, off, cap, rfl, hlc, hcm, -⟩ := hst
 have p0 : (w.alloc (.cells #[vk, vp] 26)).cell? ⟨w.heap.size, 0, none⟩ = some vk := by simp [go_sem]
 have p1 : (w.alloc (.cells #[vk, vp] 26)).cell? ⟨w.heap.size, 1, none⟩ = some vp := by simp [go_sem]
 unfold maxLen at hcm
 go_enter Tryz.func146, Tryz.ntmps146
 by_cases h1 : (ws.length : Int) < 2
 ·have HE : Hid (routeB ps ws = false) := routeB_no (by simp [inB]; omega)
  go_wp2
  go_ret
  exact ⟨ret_bool HE.out.symm, HB1.out⟩
 by_cases h2 : (8 : Int) < (ws.length : Int)
 ·have HE : Hid (routeB ps ws = false) := routeB_no (by simp [inB]; omega)
  go_wp2
  go_ret
  exact ⟨ret_bool HE.out.symm, HB1.out⟩
 have HE : Hid (routeB ps ws = allB ws.length (stepB ps ws)) := routeB_yes (by simp [inB]; omega)
 have Q0 : Hid ((w.alloc (.cells #[vk, vp] 26)).cell? ⟨w.heap.size, 0, none⟩ = some vk ∧ (w.alloc (.cells #[vk, vp] 26)).cell? ⟨w.heap.size, 1, none⟩ = some vp) := ⟨p0, p1⟩
 clear p0 p1
 go_wp2_with fail
 generalize (w.alloc (.cells #[vk, vp] 26)) = w1 at *
 go_loopw [5, 6, 19] (fun _ _ i wr => ∃ k : Nat, k ≤ ws.length ∧ i = .int .i64 k ∧ Below w1.heap.size w1 wr ∧ Hid (∀ j, j < k → stepB ps ws j = true)) (fun _ _ i _ => ws.length - (intOf i).toNat)
 case atStart => exact ⟨0, Nat.zero_le _, rfl, Below.refl _ _, fun j hj => absurd hj (Nat.not_lt_zero _)⟩
 case round =>
  obtain ⟨k, hk, rfl, hb, HA⟩ := hrel
  by_cases hlt : k < ws.length
  ·have c0 : wr.cell? ⟨g, off + k, none⟩ = some (.string (wat ws k)) := (HST.out.keep hb).cell k hlt
   have p0 := cell_keep hb (Nat.le_refl _) Q0.out.1
   have p1 := cell_keep hb (Nat.le_refl _) Q0.out.2
   have hk0 : (0 : Int) ≤ (k : Int) := by omega
   have hk1 : (k : Int) < (ws.length : Int) := by omega
   cases hh : hasB ps (wat ws k)
   ·have HH : Hid (hasB ps (wat ws k) = false) := hh
    clear hh
    go_wp2_with fail
    refine (HHP.out (wat ws k) _ (below_step HB1.out hb)).mono ?_
    rw [HH.out]
    rintro e w2 ⟨rfl, hb2⟩
    go_wp2
    go_ret
    exact ⟨ret_bool (by rw [HE.out]; exact (allB_false hlt (by unfold stepB; rw [HH.out]; rfl)).symm), below_step (below_step HB1.out hb) hb2⟩
   ·have HH : Hid (hasB ps (wat ws k) = true) := hh
    clear hh
    by_cases hz : 0 < k
    ·have c1 : wr.cell? ⟨g, off + (k - 1), none⟩ = some (.string (wat ws (k - 1))) := (HST.out.keep hb).cell (k - 1) (by omega)
     by_cases hx : wat ws (k - 1) = wat ws k
     ·have hq : ((wat ws (k - 1)).toList == (wat ws k).toList) = true := str_eq hx
      have HX : Hid (stepB ps ws k = false) := by show stepB ps ws k = false; unfold stepB; simp [hx, hz]
      clear hx
      go_wp2_with fail
      refine (HHP.out (wat ws k) _ (below_step HB1.out hb)).mono ?_
      rw [HH.out]
      rintro e w2 ⟨rfl, hb2⟩
      have c2 := cell_keep hb2 (Nat.le_refl _) c1
      go_wp2
      go_ret
      exact ⟨ret_bool (by rw [HE.out]; exact (allB_false hlt HX.out).symm), below_step (below_step HB1.out hb) hb2⟩
     ·have hq : ((wat ws (k - 1)).toList == (wat ws k).toList) = false := str_ne hx
      have HX : Hid (stepB ps ws k = true) := by show stepB ps ws k = true; unfold stepB; rw [HH.out]; simp [hx]
      clear hx
      go_wp2_with fail
      refine (HHP.out (wat ws k) _ (below_step HB1.out hb)).mono ?_
      rw [HH.out]
      rintro e w2 ⟨rfl, hb2⟩
      have c2 := cell_keep hb2 (Nat.le_refl _) c1
      go_wp2
      exact ⟨⟨k + 1, by omega, by go_num, below_step hb hb2, fun j hj => if e : j = k then by rw [e]; exact HX.out else HA.out j (by omega)⟩, by simp [intOf]; omega⟩
    ·have HX : Hid (stepB ps ws k = true) := by show stepB ps ws k = true; unfold stepB; rw [HH.out]; simp [hz]
     go_wp2_with fail
     refine (HHP.out (wat ws k) _ (below_step HB1.out hb)).mono ?_
     rw [HH.out]
     rintro e w2 ⟨rfl, hb2⟩
     go_wp2
     exact ⟨⟨k + 1, by omega, by go_num, below_step hb hb2, fun j hj => if e : j = k then by rw [e]; exact HX.out else HA.out j (by omega)⟩, by simp [intOf]; omega⟩
  ·go_wp2
   go_ret
   exact ⟨ret_bool (by rw [HE.out]; exact (allB_true fun j hj => HA.out j (by omega)).symm), below_step HB1.out hb⟩
set_option maxHeartbeats 1600000 in
theorem routeRule_any (vk vp : Value) (ps : List Tri) (s : ByteArray) (w : World) (hs : s.size ≤ 1048576) (hp : TrisAt w vp ps) :
  Calls Tryz.prog 145 #[.agg #[], .agg #[vk, vp], .string s] w fun e w' => e = .returned (.bool (routeB ps (cutW s))) ∧ Below w.heap.size w w' := by
 have HWD : Hid (∀ wx : World, Calls Tryz.prog 142 #[.string s] wx fun e w' => ∃ v, e = .returned v ∧ StrsAt w' v (cutW s) ∧ Below wx.heap.size wx w') := fun wx => wordsOf_any s wx hs
 generalize cutW s = ws at *
 have HRF : Hid (∀ (v : Value) (wx : World), Below w.heap.size w wx → StrsAt wx v ws → Calls Tryz.prog 146 #[.agg #[vk, vp], v] wx fun e w' => e = .returned (.bool (routeB ps ws)) ∧ Below wx.heap.size wx w') := fun v wx hx hv => routeFits_any vk vp v ps ws wx (hp.keep hx) hv
 clear hp
 have HAL : Hid (Below w.heap.size w ((w.alloc (.cells #[] 145)).alloc (.cells #[vk, vp] 26))) := ((Below.refl _ _).alloc (Nat.le_refl _) _).alloc (by simp) _
 have p0 : ((w.alloc (.cells #[] 145)).alloc (.cells #[vk, vp] 26)).cell? ⟨w.heap.size + 1, 0, none⟩ = some vk := by simp [go_sem]
 have p1 : ((w.alloc (.cells #[] 145)).alloc (.cells #[vk, vp] 26)).cell? ⟨w.heap.size + 1, 1, none⟩ = some vp := by simp [go_sem]
 go_enter Tryz.func145, Tryz.ntmps145
 go_wp2_with fail
 generalize ((w.alloc (.cells #[] 145)).alloc (.cells #[vk, vp] 26)) = w1 at *
 refine wp_region_noPanic ?_
 refine wp_region_held_drew (S := fun w' => w'.cell? ⟨w.heap.size + 1, 0, none⟩ = some vk ∧ w'.cell? ⟨w.heap.size + 1, 1, none⟩ = some vp) (by kernel_rfl) ?_ (fun hHeld => ?_)
 ·exact ⟨cell_keep (Below.refl _ _).drew (Nat.le_refl _) p0, cell_keep (Below.refl _ _).drew (Nat.le_refl _) p1⟩
 have HBW : Hid (Below w.heap.size w w1.drew) := below_step HAL.out (Below.refl _ _).drew
 have Q0 : Hid (∀ wx : World, Below w1.heap.size w1 wx → wx.cell? ⟨w.heap.size + 1, 0, none⟩ = some vk ∧ wx.cell? ⟨w.heap.size + 1, 1, none⟩ = some vp) := fun wx hx => ⟨cell_keep hx (Nat.le_refl _) p0, cell_keep hx (Nat.le_refl _) p1⟩
 have HB1 : Hid (Below w1.heap.size w1 w1.drew) := (Below.refl _ _).drew
 clear p0 p1
 refine tkH 0 ?_ rfl ?_ ?_; rotate_left
 ·intro w hSw; (try dsimp only at hSw); go_simp; try with_reducible rfl
 simp only [Act.put, tkS]
 refine tkH 1 ?_ rfl ?_ ?_; rotate_left
 ·intro w hSw; (try dsimp only at hSw); go_simp; try with_reducible rfl
 simp only [Act.put, tkS]
 clear hHeld
 refine rdH 2 rfl (fun K hK => ?_)
 go_simp
 refine (HWD.out _).mono ?_
 rintro e w2 ⟨v, rfl, hst, hb2⟩
 have HB2 : Hid (Below w1.heap.size w1 w2) := below_step HB1.out hb2
 have HC2 : Hid (Below w.heap.size w w2) := below_step HBW.out hb2
 have HST : Hid (StrsAt w2 v ws) := hst
 obtain ⟨g, off, cap, rfl, hlc, hcm, -⟩ := hst
 refine hK.out _ _ (Q0.out _ HB2.out) (fun _ => ?_)
 clear hK K hb2 HBW HB1
 refine rdH 3 rfl (fun K hK => ?_)
 go_simp
 refine (HRF.out _ _ HC2.out HST.out).mono ?_
 rintro e w3 ⟨rfl, hb3⟩
 have HB3 : Hid (Below w1.heap.size w1 w3) := below_step HB2.out hb3
 have HC3 : Hid (Below w.heap.size w w3) := below_step HC2.out hb3
 have hHeld := Q0.out _ HB3.out
 refine hK.out _ _ hHeld (fun _ => ?_)
 clear hK K
 refine tkH 4 ?_ rfl ?_ ?_; rotate_left
 ·intro w hSw; (try dsimp only at hSw); go_simp; try with_reducible rfl
 simp only [Act.put, tkS]
 clear hHeld
 refine wpAnyH_done (by kernel_rfl) ?_ _
 refine NoPanic.normal ?_
 go_wp2
 go_ret
 exact ⟨rfl, HC3.out⟩
end Go.Proofs.YtibpkhmiahamcaaGreat
