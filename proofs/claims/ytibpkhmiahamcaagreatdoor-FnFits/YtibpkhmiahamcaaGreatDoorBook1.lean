/-
  Joined: Lists, Points, Base, BookB, Book1.
-/
import Derived.Test.YtibpkhmiahamcaaGreatDoorNames
import Derived.Test.YtibpkhmiahamcaaGreatDoorBl
import Derived.Deep.MidRow
import Derived.Deep.RegionHeld3

/-
  impl: kinds and points of a base.
-/
namespace Go.Proofs.YtibpkhmiahamcaaGreatDoor
open Go.RowKit

set_option maxHeartbeats 1600000 in
theorem kindsOk_any (v : Value) (l : List Tri) (w : World) (hv : TrisAt w v l) (hs : ∀ t ∈ l, t.s.size ≤ maxLen) :
    Calls Tryz.prog 45 #[v] w fun e w' => e = .returned (.bool (kindsB l)) ∧ Below w.heap.size w w' := by
  have hnm := fun wx hvx => namesKind_any v l 6 wx hvx hs (by omega)
  have HNM : Hid (∀ (wx : World), TrisAt wx v l → Calls Tryz.prog 66 #[v, .int .i64 (6 : Nat), .func (.func 67) #[] #[]] wx fun e w' => e = .returned (.bool (namesB l 6)) ∧ Below wx.heap.size wx w') := hnm
  clear hnm
  have HV : Hid (TrisAt w v l) := hv
  obtain ⟨a, cap, rfl, hlc, hcm, hc⟩ := hv
  unfold maxLen at hcm
  have HC : Hid (∀ i t, l[i]? = some t → ∃ b off, a = some ⟨b, off, none⟩ ∧ TriAt w b (off + i * 3) t) := hc
  clear hc
  cases hn : namesB l 6
  · have e : kindsB l = false := by simp [kindsB, hn]
    have HN : Hid (namesB l 6 = false) := hn
    rw [e]; clear e hn
    go_enter Tryz.func45, Tryz.ntmps45
    go_wp2_with fail
    refine (HNM.out _ HV.out).mono ?_
    rw [HN.out]
    rintro e w1 ⟨rfl, hb1⟩
    go_wp2
    go_ret
    exact ⟨rfl, hb1⟩
  · have e : kindsB l = allB l.length fun i => paceB (at' l i) := by simp [kindsB, hn]
    have HN : Hid (namesB l 6 = true) := hn
    rw [e]; clear e hn
    go_enter Tryz.func45, Tryz.ntmps45
    go_wp2_with fail
    refine (HNM.out _ HV.out).mono ?_
    rw [HN.out]
    rintro e w1 ⟨rfl, hb1⟩
    go_wp2
    go_loopw [4, 10] (fun _ i wr => ∃ k : Nat, k ≤ l.length ∧ i = .int .i64 k ∧ Below w.heap.size w wr ∧ Hid (∀ j, j < k → paceB (at' l j) = true)) (fun _ i _ => l.length - (intOf i).toNat)
    case atStart => exact ⟨0, Nat.zero_le _, rfl, hb1, fun j hj => absurd hj (Nat.not_lt_zero _)⟩
    case round =>
      obtain ⟨k, hk, rfl, hb, HA⟩ := hrel
      by_cases hlt : k < l.length
      · obtain ⟨b, off, rfl, hc⟩ := HC.out k _ (at_get hlt)
        obtain ⟨d0, d1, d2⟩ := hc.keep hb (Nat.le_refl _)
        have BAD : Hid (paceB (at' l k) = false → allB l.length (fun i => paceB (at' l i)) = false) := fun h => allB_false hlt h
        have hk0 : (0 : Int) ≤ (k : Int) := by omega
        have hk1 : (k : Int) < (l.length : Int) := by omega
        cases hp : paceB (at' l k)
        · have HP : Hid (paceB (at' l k) = false) := hp
          clear hp
          go_wp2_with fail
          refine (paceOk_any (at' l k) _).mono ?_
          rw [HP.out]
          rintro e w2 ⟨rfl, hb2⟩
          go_wp2
          go_ret
          exact ⟨ret_bool (BAD.out HP.out).symm, below_step (hb.alloc hb.size _) hb2⟩
        · have HP : Hid (paceB (at' l k) = true) := hp
          clear hp
          go_wp2_with fail
          refine (paceOk_any (at' l k) _).mono ?_
          rw [HP.out]
          rintro e w2 ⟨rfl, hb2⟩
          go_wp2
          exact ⟨⟨k + 1, by omega, by go_num, below_step (hb.alloc hb.size _) hb2, fun j hj => if e : j = k then by rw [e]; exact HP.out else HA.out j (by omega)⟩, by simp [intOf]; omega⟩
      · go_wp2
        go_ret
        exact ⟨ret_bool (allB_true fun j hj => HA.out j (by omega)).symm, hb⟩

set_option maxHeartbeats 1600000 in
theorem cellTaken_any (v : Value) (l : List Tri) (t : Tri) (w : World) (hv : TrisAt w v l) :
    Calls Tryz.prog 72 #[v, .agg #[.string t.s, .int .i64 t.x, .int .i64 t.y]] w fun e w' => e = .returned (.bool (takenB l l.length t)) ∧ Below w.heap.size w w' := by
  obtain ⟨a, cap, rfl, hlc, hcm, hc⟩ := hv
  unfold maxLen at hcm
  have HC : Hid (∀ i t, l[i]? = some t → ∃ b off, a = some ⟨b, off, none⟩ ∧ TriAt w b (off + i * 3) t) := hc
  clear hc
  go_enter Tryz.func72, Tryz.ntmps72
  go_wp2
  go_loopw [6, 9] (fun _ i wr => ∃ k : Nat, k ≤ l.length ∧ i = .int .i64 k ∧ Below (w.heap.size + 1) (w.alloc (.cells #[.string t.s, .int .i64 t.x, .int .i64 t.y] 75)) wr ∧ Hid (∀ j, j < k → (!sameB (at' l j) t) = true)) (fun _ i _ => l.length - (intOf i).toNat)
  case atStart => exact ⟨0, Nat.zero_le _, rfl, Below.refl _ _, fun j hj => absurd hj (Nat.not_lt_zero _)⟩
  case round =>
    obtain ⟨k, hk, rfl, hb, HA⟩ := hrel
    have hbw : Below w.heap.size w wr := ((Below.refl _ _).alloc (Nat.le_refl _) _).trans (hb.mono (Nat.le_succ _))
    have hsz : w.heap.size < wr.heap.size := by have := hb.size; simp at this; omega
    have p1 : wr.cell? ⟨w.heap.size, 1, none⟩ = some (.int .i64 t.x) := by rw [hb.cell (p := ⟨w.heap.size, 1, none⟩) (Nat.lt_succ_self _)]; simp
    have p2 : wr.cell? ⟨w.heap.size, 2, none⟩ = some (.int .i64 t.y) := by rw [hb.cell (p := ⟨w.heap.size, 2, none⟩) (Nat.lt_succ_self _)]; simp
    by_cases hlt : k < l.length
    · obtain ⟨b, off, rfl, hc⟩ := HC.out k _ (at_get hlt)
      obtain ⟨d0, d1, d2⟩ := hc.keep hbw (Nat.le_refl _)
      have BAD : Hid ((!sameB (at' l k) t) = false → takenB l l.length t = true) := fun h => by unfold takenB; rw [allB_false hlt h]; rfl
      have hk0 : (0 : Int) ≤ (k : Int) := by omega
      have hk1 : (k : Int) < (l.length : Int) := by omega
      have hfin : Hid (Below (w.heap.size + 1) (w.alloc (.cells #[.string t.s, .int .i64 t.x, .int .i64 t.y] 75)) (wr.alloc (.cells #[.string (at' l k).s, .int .i64 (at' l k).x, .int .i64 (at' l k).y] 75))) := hb.alloc (by omega) _
      have hfin' : Hid (Below w.heap.size w (wr.alloc (.cells #[.string (at' l k).s, .int .i64 (at' l k).x, .int .i64 (at' l k).y] 75))) := hbw.alloc (by omega) _
      have SM : Hid (sameB (at' l k) t = (decide ((at' l k).x = t.x) && decide ((at' l k).y = t.y))) := rfl
      by_cases hx : (at' l k).x = t.x
      · have hx' : ((at' l k).x == t.x) = true := by simp [hx]
        have HX : Hid ((at' l k).x = t.x) := hx
        clear hx
        by_cases hy : (at' l k).y = t.y
        · have hy' : ((at' l k).y == t.y) = true := by simp [hy]
          have HY : Hid ((at' l k).y = t.y) := hy
          clear hy
          go_wp2
          go_ret
          exact ⟨ret_bool (BAD.out (by rw [SM.out, HX.out, HY.out]; simp)).symm, hfin'.out⟩
        · have hy' : ((at' l k).y == t.y) = false := by simp [hy]
          have HY : Hid (¬ (at' l k).y = t.y) := hy
          clear hy
          go_wp2
          exact ⟨⟨k + 1, by omega, by go_num, hfin.out, fun j hj => if e : j = k then by rw [e, SM.out]; simp [HY.out] else HA.out j (by omega)⟩, by simp [intOf]; omega⟩
      · have hx' : ((at' l k).x == t.x) = false := by simp [hx]
        have HX : Hid (¬ (at' l k).x = t.x) := hx
        clear hx
        go_wp2
        exact ⟨⟨k + 1, by omega, by go_num, hfin.out, fun j hj => if e : j = k then by rw [e, SM.out]; simp [HX.out] else HA.out j (by omega)⟩, by simp [intOf]; omega⟩
    · go_wp2
      go_ret
      exact ⟨ret_bool (by unfold takenB; rw [allB_true fun j hj => HA.out j (by omega)]; rfl), hbw⟩

theorem taken_take (l : List Tri) (i : Nat) (h : i ≤ l.length) (t : Tri) : takenB (l.take i) (l.take i).length t = takenB l i t := by
  unfold takenB
  rw [List.length_take, Nat.min_eq_left h]
  congr 1
  refine allB_congr fun j hj => ?_
  simp [at', List.getD, hj]

theorem TrisAt.take {w : World} {a : Option Addr} {l : List Tri} {cap : Nat} (h : TrisAt w (.slice a l.length cap) l) (i : Nat) (hi : i ≤ l.length) : TrisAt w (.slice a i cap) (l.take i) := by
  obtain ⟨a', cap', he, h1, h2, h3⟩ := h
  cases he
  have hl : (l.take i).length = i := by rw [List.length_take, Nat.min_eq_left hi]
  refine ⟨a, cap, by rw [hl], by omega, h2, fun j t ht => h3 j t ?_⟩
  have hj : j < (l.take i).length := (List.getElem?_eq_some_iff.1 ht).1
  rw [List.getElem?_take] at ht
  rw [hl] at hj
  simpa [hj] using ht
end Go.Proofs.YtibpkhmiahamcaaGreatDoor

/-
  impl: the points of a base; a base.
-/
namespace Go.Proofs.YtibpkhmiahamcaaGreatDoor
open Go.RowKit

set_option maxHeartbeats 1600000 in
theorem pointsOk_any (v : Value) (l : List Tri) (w : World) (hv : TrisAt w v l) (hs : ∀ t ∈ l, t.s.size ≤ maxLen) :
    Calls Tryz.prog 46 #[v] w fun e w' => e = .returned (.bool (pointsB l)) ∧ Below w.heap.size w w' := by
  have hnm := fun wx hvx => namesPoint_any v l 16 wx hvx hs (by omega)
  have HNM : Hid (∀ (wx : World), TrisAt wx v l → Calls Tryz.prog 69 #[v, .int .i64 (16 : Nat), .func (.func 70) #[] #[]] wx fun e w' => e = .returned (.bool (namesB l 16)) ∧ Below wx.heap.size wx w') := hnm
  clear hnm
  have HV : Hid (TrisAt w v l) := hv
  obtain ⟨a, cap, rfl, hlc, hcm, hc⟩ := hv
  unfold maxLen at hcm
  have HC : Hid (∀ i t, l[i]? = some t → ∃ b off, a = some ⟨b, off, none⟩ ∧ TriAt w b (off + i * 3) t) := hc
  clear hc
  cases hn : namesB l 16
  · have e : pointsB l = false := by simp [pointsB, hn]
    have HN : Hid (namesB l 16 = false) := hn
    rw [e]; clear e hn
    go_enter Tryz.func46, Tryz.ntmps46
    go_wp2_with fail
    refine (HNM.out _ HV.out).mono ?_
    rw [HN.out]
    rintro e w1 ⟨rfl, hb1⟩
    go_wp2
    go_ret
    exact ⟨rfl, hb1⟩
  · have e : pointsB l = allB l.length fun i => insideB (at' l i) && !takenB l i (at' l i) := by simp [pointsB, hn]
    have HN : Hid (namesB l 16 = true) := hn
    rw [e]; clear e hn
    go_enter Tryz.func46, Tryz.ntmps46
    go_wp2_with fail
    refine (HNM.out _ HV.out).mono ?_
    rw [HN.out]
    rintro e w1 ⟨rfl, hb1⟩
    go_wp2
    go_loopw [3, 4, 10] (fun _ _ i wr => ∃ k : Nat, k ≤ l.length ∧ i = .int .i64 k ∧ Below w.heap.size w wr ∧ Hid (∀ j, j < k → (insideB (at' l j) && !takenB l j (at' l j)) = true)) (fun _ _ i _ => l.length - (intOf i).toNat)
    case atStart => exact ⟨0, Nat.zero_le _, rfl, hb1, fun j hj => absurd hj (Nat.not_lt_zero _)⟩
    case round =>
      obtain ⟨k, hk, rfl, hb, HA⟩ := hrel
      by_cases hlt : k < l.length
      · obtain ⟨b, off, rfl, hc⟩ := HC.out k _ (at_get hlt)
        obtain ⟨d0, d1, d2⟩ := hc.keep hb (Nat.le_refl _)
        have BAD : Hid ((insideB (at' l k) && !takenB l k (at' l k)) = false → allB l.length (fun i => insideB (at' l i) && !takenB l i (at' l i)) = false) := fun h => allB_false hlt h
        have hk0 : (0 : Int) ≤ (k : Int) := by omega
        have hk1 : (k : Int) < (l.length : Int) := by omega
        have hk2 : (k : Int) ≤ (cap : Int) := by omega
        have HT : Hid (takenB (l.take k) (l.take k).length (at' l k) = takenB l k (at' l k)) := taken_take l k hk _
        have HTK : Hid (∀ wx : World, Below w.heap.size w wx → TrisAt wx (.slice (some ⟨b, off, none⟩) k cap) (l.take k)) := fun wx hx => (HV.out.keep hx).take k hk
        cases hp : insideB (at' l k)
        · have HP : Hid (insideB (at' l k) = false) := hp
          clear hp
          go_wp2
          first | go_region_with (go_at_call 71; refine (inside_any (at' l k) _).mono ?_; rw [HP.out]; rintro e w3 ⟨rfl, hb3⟩) | fail
          all_goals go_wp2
          all_goals go_ret
          all_goals exact ⟨ret_bool (BAD.out (by rw [HP.out]; rfl)).symm, below_step (hb.alloc hb.size _).drew hb3⟩
        · have HP : Hid (insideB (at' l k) = true) := hp
          clear hp
          cases ht : takenB l k (at' l k)
          · have HT2 : Hid (takenB l k (at' l k) = false) := ht
            clear ht
            go_wp2
            go_region_held3 (fun w' => w'.cell? ⟨wr.heap.size, 0, none⟩ = some (.string (at' l k).s) ∧ w'.cell? ⟨wr.heap.size, 1, none⟩ = some (.int .i64 (at' l k).x) ∧ w'.cell? ⟨wr.heap.size, 2, none⟩ = some (.int .i64 (at' l k).y) ∧ Below w.heap.size w w')
              (first | (refine ⟨by simp [*, go_sem], by simp [*, go_sem], by simp [*, go_sem], ?_⟩; exact (hb.alloc hb.size _).drew) | (obtain ⟨s0, s1, s2, s6⟩ := ‹_ ∧ _ ∧ _ ∧ Below w.heap.size w _›; exact ⟨cell_keep hb3 (Nat.le_refl _) s0, cell_keep hb3 (Nat.le_refl _) s1, cell_keep hb3 (Nat.le_refl _) s2, below_step s6 hb3⟩))
              (first | (go_at_call 71; refine (inside_any (at' l k) _).mono ?_; rw [HP.out]; rintro e w3 ⟨rfl, hb3⟩) | (go_at_call 72; refine (cellTaken_any _ (l.take k) (at' l k) _ (HTK.out _ (by exact (‹_ ∧ _ ∧ _ ∧ Below w.heap.size w _›).2.2.2))).mono ?_; rw [HT.out, HT2.out]; rintro e w3 ⟨rfl, hb3⟩))
            go_wp2
            obtain ⟨_, _, _, hS⟩ := ‹_ ∧ _ ∧ _ ∧ Below w.heap.size w w3›
            exact ⟨⟨k + 1, by omega, by go_num, hS, fun j hj => if e : j = k then by rw [e, HP.out, HT2.out]; rfl else HA.out j (by omega)⟩, by simp [intOf]; omega⟩
          · have HT2 : Hid (takenB l k (at' l k) = true) := ht
            clear ht
            go_wp2
            go_region_held3 (fun w' => w'.cell? ⟨wr.heap.size, 0, none⟩ = some (.string (at' l k).s) ∧ w'.cell? ⟨wr.heap.size, 1, none⟩ = some (.int .i64 (at' l k).x) ∧ w'.cell? ⟨wr.heap.size, 2, none⟩ = some (.int .i64 (at' l k).y) ∧ Below w.heap.size w w')
              (first | (refine ⟨by simp [*, go_sem], by simp [*, go_sem], by simp [*, go_sem], ?_⟩; exact (hb.alloc hb.size _).drew) | (obtain ⟨s0, s1, s2, s6⟩ := ‹_ ∧ _ ∧ _ ∧ Below w.heap.size w _›; exact ⟨cell_keep hb3 (Nat.le_refl _) s0, cell_keep hb3 (Nat.le_refl _) s1, cell_keep hb3 (Nat.le_refl _) s2, below_step s6 hb3⟩))
              (first | (go_at_call 71; refine (inside_any (at' l k) _).mono ?_; rw [HP.out]; rintro e w3 ⟨rfl, hb3⟩) | (go_at_call 72; refine (cellTaken_any _ (l.take k) (at' l k) _ (HTK.out _ (by exact (‹_ ∧ _ ∧ _ ∧ Below w.heap.size w _›).2.2.2))).mono ?_; rw [HT.out, HT2.out]; rintro e w3 ⟨rfl, hb3⟩))
            go_wp2
            obtain ⟨_, _, _, hS⟩ := ‹_ ∧ _ ∧ _ ∧ Below w.heap.size w w3›
            go_ret
            exact ⟨ret_bool (BAD.out (by rw [HP.out, HT2.out]; rfl)).symm, hS⟩
      · go_wp2
        go_ret
        exact ⟨ret_bool (allB_true fun j hj => HA.out j (by omega)).symm, hb⟩
end Go.Proofs.YtibpkhmiahamcaaGreatDoor

/-
  A base: impl's PlanBaseOk, and the law's own sizes, copies and comparisons of bases.
-/
namespace Go.Proofs.YtibpkhmiahamcaaGreatDoor
open Go.RowKit

/-- Names that fit into memory. -/
def Names (l : List Tri) : Prop := ∀ t ∈ l, t.s.size ≤ maxLen
theorem TrisAt.alloc {w : World} {v : Value} {l : List Tri} (h : TrisAt w v l) (o : Obj) : TrisAt (w.alloc o) v l := h.keep ((Below.refl _ _).alloc (Nat.le_refl _) _)

set_option maxHeartbeats 800000 in
theorem baseOk_any (vk vp : Value) (ks ps : List Tri) (w : World) (hk : TrisAt w vk ks) (hp : TrisAt w vp ps) (nk : Names ks) (np : Names ps) :
    Calls Tryz.prog 18 #[.agg #[vk, vp]] w fun e w' => e = .returned (.bool (kindsB ks && pointsB ps)) ∧ Below w.heap.size w w' := by
  have HK := hk; have HP := hp
  obtain ⟨ak, ck, rfl, -, -, -⟩ := hk
  obtain ⟨ap, cp, rfl, -, -, -⟩ := hp
  have HK1 : Hid (TrisAt w (.slice ak ks.length ck) ks) := HK
  have HP1 : Hid (TrisAt w (.slice ap ps.length cp) ps) := HP
  have NK : Hid (Names ks) := nk
  have NP : Hid (Names ps) := np
  clear HK HP nk np
  cases h1 : kindsB ks
  · have H1 : Hid (kindsB ks = false) := h1
    rw [Bool.false_and]; clear h1
    go_enter Tryz.func18, Tryz.ntmps18
    go_wp2_with fail
    refine (kindsOk_any _ ks _ (HK1.out.alloc _) NK.out).mono ?_
    rw [H1.out]
    rintro e w1 ⟨rfl, hb1⟩
    go_wp2
    go_ret
    exact ⟨rfl, below_step ((Below.refl _ _).alloc (Nat.le_refl _) _) hb1⟩
  · have H1 : Hid (kindsB ks = true) := h1
    rw [Bool.true_and]; clear h1
    go_enter Tryz.func18, Tryz.ntmps18
    go_wp2_with fail
    refine (kindsOk_any _ ks _ (HK1.out.alloc _) NK.out).mono ?_
    rw [H1.out]
    rintro e w1 ⟨rfl, hb1⟩
    have c1 : w1.cell? ⟨w.heap.size, 1, none⟩ = some (.slice ap ps.length cp) := cell_keep hb1 (Nat.le_refl _) (by simp)
    have hbw := below_step ((Below.refl _ _).alloc (Nat.le_refl _) _) hb1
    go_wp2_with fail
    refine (pointsOk_any _ ps _ (HP1.out.keep hbw) NP.out).mono ?_
    rintro e w2 ⟨rfl, hb2⟩
    go_wp2
    go_ret
    exact ⟨rfl, below_step hbw hb2⟩

theorem TrisAt.setOther {w : World} {b n cap : Nat} {l : List Tri} (h : TrisAt w (.slice (some ⟨b, 0, none⟩) n cap) l) (k o : Nat) (hp : b ≠ k) (v : Value) : TrisAt (w.setCell ⟨k, o, none⟩ v) (.slice (some ⟨b, 0, none⟩) n cap) l := by
  obtain ⟨a', cap', he, h1, h2, h3⟩ := h
  cases he
  refine ⟨_, _, rfl, h1, h2, fun i t ht => ?_⟩
  obtain ⟨b', off, ha, c0, c1, c2⟩ := h3 i t ht
  cases ha
  have hc : ∀ o', (w.setCell ⟨k, o, none⟩ v).cell? ⟨b, o', none⟩ = w.cell? ⟨b, o', none⟩ := fun o' => World.cell?_of_block (w := w) (Below.heap_setCell w ⟨k, o, none⟩ v b hp)
  exact ⟨_, _, rfl, by rw [hc]; exact c0, by rw [hc]; exact c1, by rw [hc]; exact c2⟩

theorem below_set {B : Nat} {a w : World} (h : Below B a w) (k o : Nat) (hk : B ≤ k) (v : Value) : Below B a (w.setCell ⟨k, o, none⟩ v) := h.setCell (p := ⟨k, o, none⟩) hk v

end Go.Proofs.YtibpkhmiahamcaaGreatDoor

/-
  Books in memory: fields, entries; their sizes.
-/
namespace Go.Proofs.YtibpkhmiahamcaaGreatDoor
open Go.RowKit

/-- What is said of one thing. -/
structure Fld where
  what : Int
  num : Int
  v : ByteArray
/-- A flight of a book. -/
structure Ent where
  name : ByteArray
  fs : List Fld

def fldV (f : Fld) : Value := .agg #[.int .i64 f.what, .int .i64 f.num, .string f.v]
/-- A field's cells. -/
def FldAt (w : World) (b o : Nat) (f : Fld) : Prop := w.cell? ⟨b, o, none⟩ = some (.int .i64 f.what) ∧ w.cell? ⟨b, o + 1, none⟩ = some (.int .i64 f.num) ∧ w.cell? ⟨b, o + 2, none⟩ = some (.string f.v)
/-- v is a slice of these, in w. -/
def FldsAt (w : World) (v : Value) (l : List Fld) : Prop :=
  ∃ a cap, v = .slice a l.length cap ∧ l.length ≤ cap ∧ cap ≤ maxLen ∧ ∀ i f, l[i]? = some f → ∃ b off, a = some ⟨b, off, none⟩ ∧ FldAt w b (off + i * 3) f
/-- An entry's cells, and its fields. -/
def EntAt (w : World) (b o : Nat) (e : Ent) : Prop := ∃ fv, w.cell? ⟨b, o, none⟩ = some (.string e.name) ∧ w.cell? ⟨b, o + 1, none⟩ = some fv ∧ FldsAt w fv e.fs
def EntsAt (w : World) (v : Value) (l : List Ent) : Prop :=
  ∃ a cap, v = .slice a l.length cap ∧ l.length ≤ cap ∧ cap ≤ maxLen ∧ ∀ i e, l[i]? = some e → ∃ b off, a = some ⟨b, off, none⟩ ∧ EntAt w b (off + i * 2) e

theorem FldAt.keep {w w' : World} {b o B : Nat} {f : Fld} (h : FldAt w b o f) (hb : Below B w w') (hB : w.heap.size ≤ B) : FldAt w' b o f :=
  ⟨cell_keep hb hB h.1, cell_keep hb hB h.2.1, cell_keep hb hB h.2.2⟩
theorem FldsAt.keep {w w' : World} {v : Value} {l : List Fld} (h : FldsAt w v l) (hb : Below w.heap.size w w') : FldsAt w' v l := by
  obtain ⟨a, cap, rfl, h1, h2, h3⟩ := h
  refine ⟨a, cap, rfl, h1, h2, fun i t ht => ?_⟩
  obtain ⟨b, off, ha, hc⟩ := h3 i t ht
  exact ⟨b, off, ha, hc.keep hb (Nat.le_refl _)⟩
theorem EntAt.keep {w w' : World} {b o : Nat} {e : Ent} (h : EntAt w b o e) (hb : Below w.heap.size w w') : EntAt w' b o e := by
  obtain ⟨fv, h0, h1, h2⟩ := h
  exact ⟨fv, cell_keep hb (Nat.le_refl _) h0, cell_keep hb (Nat.le_refl _) h1, h2.keep hb⟩
theorem EntsAt.keep {w w' : World} {v : Value} {l : List Ent} (h : EntsAt w v l) (hb : Below w.heap.size w w') : EntsAt w' v l := by
  obtain ⟨a, cap, rfl, h1, h2, h3⟩ := h
  refine ⟨a, cap, rfl, h1, h2, fun i t ht => ?_⟩
  obtain ⟨b, off, ha, hc⟩ := h3 i t ht
  exact ⟨b, off, ha, hc.keep hb⟩

def fat (l : List Fld) (i : Nat) : Fld := l.getD i ⟨0, 0, ⟨#[]⟩⟩
theorem fat_get {l : List Fld} {i : Nat} (h : i < l.length) : l[i]? = some (fat l i) := by simp [fat, h]
def eat (l : List Ent) (i : Nat) : Ent := l.getD i ⟨⟨#[]⟩, []⟩
theorem eat_get {l : List Ent} {i : Nat} (h : i < l.length) : l[i]? = some (eat l i) := by simp [eat, h]

def FNames (l : List Fld) : Prop := ∀ f ∈ l, f.v.size ≤ maxLen
def ENames (l : List Ent) : Prop := ∀ e ∈ l, e.name.size ≤ maxLen ∧ FNames e.fs

/-- Sums over the first of a list. -/
def sumN {α : Type} (g : α → Nat) : List α → Nat
  | [] => 0
  | t :: r => g t + sumN g r
theorem sumN_append {α : Type} (g : α → Nat) (l r : List α) : sumN g (l ++ r) = sumN g l + sumN g r := by
  induction l with
  | nil => simp [sumN]
  | cons a l ih => simp [sumN, ih]; omega
theorem sumN_take_succ {α : Type} (g : α → Nat) (l : List α) (k : Nat) (x : α) (h : l[k]? = some x) : sumN g (l.take (k + 1)) = sumN g (l.take k) + g x := by
  obtain ⟨hk, rfl⟩ := List.getElem?_eq_some_iff.1 h
  rw [List.take_succ_eq_append_getElem hk, sumN_append]; simp [sumN]
theorem sumN_take_le {α : Type} (g : α → Nat) (l : List α) (k : Nat) : sumN g (l.take k) ≤ sumN g l := by
  conv => rhs; rw [← List.take_append_drop k l, sumN_append]
  omega
theorem sumN_mem {α : Type} (g : α → Nat) (l : List α) (x : α) (h : x ∈ l) : g x ≤ sumN g l := by
  induction l with
  | nil => cases h
  | cons a l ih =>
    rcases List.mem_cons.1 h with rfl | h
    · simp [sumN]
    · have := ih h; simp [sumN]; omega
def szFlds (l : List Fld) : Nat := l.length + sumN (fun f => f.v.size) l
def szEnt (e : Ent) : Nat := e.name.size + szFlds e.fs
def szEnts (l : List Ent) : Nat := l.length + sumN szEnt l
end Go.Proofs.YtibpkhmiahamcaaGreatDoor

/-
  The law's own functions over fields: sizes, copies, comparisons.
-/
namespace Go.Proofs.YtibpkhmiahamcaaGreatDoor
open Go.RowKit

end Go.Proofs.YtibpkhmiahamcaaGreatDoor
