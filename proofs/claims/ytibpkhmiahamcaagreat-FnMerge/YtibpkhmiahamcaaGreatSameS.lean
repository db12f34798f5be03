import Derived.Test.YtibpkhmiahamcaaGreatDr2
set_option linter.unusedSimpArgs false
set_option linter.unusedVariables false
namespace Go.Proofs.YtibpkhmiahamcaaGreat
open Go.RowKit
attribute [local go_sem] Later.cell Later.frozen
theorem ret_boolS {a b : Bool} (h : a = b) : Ending.returned (.bool a) = .returned (.bool b) := by rw [h]
def triEq (a b : Tri) : Bool := (a.s.toList == b.s.toList) && ((a.x == b.x) && (a.y == b.y))
def sameT (l m : List Tri) : Bool := (l.length == m.length) && allB l.length fun i => triEq (at' l i) (at' m i)
theorem sameT_stop {l m : List Tri} {k : Nat} (hk : k < l.length) (h : triEq (at' l k) (at' m k) = false) : sameT l m = false := by
 unfold sameT
 cases ha : allB l.length fun i => triEq (at' l i) (at' m i)
 ·simp
 ·have := allB_get ha k hk
  rw [h] at this
  cases this
theorem sameT_len {l m : List Tri} (h : ¬ l.length = m.length) : sameT l m = false := by simp [sameT, h]
theorem sameT_all {l m : List Tri} (h : l.length = m.length) (ha : ∀ i, i < l.length → triEq (at' l i) (at' m i) = true) : sameT l m = true := by
 unfold sameT
 rw [allB_true ha, h]
 simp
theorem triEq_cases (a b : Tri) : (triEq a b = true ∧ (a.s.toList == b.s.toList) = true ∧ (a.x == b.x) = true ∧ (a.y == b.y) = true) ∨ (triEq a b = false ∧ ((a.s.toList == b.s.toList) = false ∨ ((a.s.toList == b.s.toList) = true ∧ (a.x == b.x) = false) ∨ ((a.s.toList == b.s.toList) = true ∧ (a.x == b.x) = true ∧ (a.y == b.y) = false))) := by
 unfold triEq
 cases (a.s.toList == b.s.toList) <;> cases (a.x == b.x) <;> cases (a.y == b.y) <;> simp
set_option maxHeartbeats 3200000 in
theorem equalKind_any (u v : Value) (l m : List Tri) (w : World) (hu : TrisAt w u l) (hv : TrisAt w v m) (hl : l.length ≤ 1048576) :
  Calls Tryz.prog 73 #[u, v] w fun e w' => e = .returned (.bool (sameT l m)) ∧ Below w.heap.size w w' := by
 obtain ⟨au, cu, rfl, -, hmu, hcu⟩ := hu
 obtain ⟨av, cv, rfl, -, hmv, hcv⟩ := hv
 have HU : Hid (∀ i t, l[i]? = some t → ∃ b off, au = some ⟨b, off, none⟩ ∧ w.cell? ⟨b, off + i * 3, none⟩ = some (.string t.s) ∧ w.cell? ⟨b, off + i * 3 + 1, none⟩ = some (.int .i64 t.x) ∧ w.cell? ⟨b, off + i * 3 + 2, none⟩ = some (.int .i64 t.y)) := hcu
 have HV : Hid (∀ i t, m[i]? = some t → ∃ b off, av = some ⟨b, off, none⟩ ∧ w.cell? ⟨b, off + i * 3, none⟩ = some (.string t.s) ∧ w.cell? ⟨b, off + i * 3 + 1, none⟩ = some (.int .i64 t.x) ∧ w.cell? ⟨b, off + i * 3 + 2, none⟩ = some (.int .i64 t.y)) := hcv
 unfold maxLen at hmu hmv
 clear hcu hcv
 by_cases hlen : l.length = m.length
 ·have hq : (((l.length : Nat) : Int) != ((m.length : Nat) : Int)) = false := by simp [hlen]
  have HLEN : Hid (l.length = m.length) := hlen
  have hl1 : l.length ≤ m.length := by omega
  clear hlen
  go_enter Tryz.func73, Tryz.ntmps73
  go_wp2
  go_loopw [13, 5] (fun i _ wr => ∃ k : Nat, k ≤ l.length ∧ i = .int .i64 k ∧ Hid (∀ i, i < k → triEq (at' l i) (at' m i) = true) ∧ Hid (Below w.heap.size w wr)) (fun i _ _ => l.length - (intOf i).toNat)
  case atStart => exact ⟨0, Nat.zero_le _, rfl, fun i hi => absurd hi (Nat.not_lt_zero _), Below.refl _ _⟩
  case round =>
   obtain ⟨k, hk, rfl, HA, HB⟩ := hrel
   by_cases hlt : k < l.length
   ·obtain ⟨b, off, rfl, d0, d1, d2⟩ := HU.out k _ (at_get hlt)
    obtain ⟨b', off', rfl, e0, e1, e2⟩ := HV.out k _ (at_get (show k < m.length by omega))
    have c0 := cell_keep HB.out (Nat.le_refl _) d0
    have c1 := cell_keep HB.out (Nat.le_refl _) d1
    have c2 := cell_keep HB.out (Nat.le_refl _) d2
    have f0 := cell_keep HB.out (Nat.le_refl _) e0
    have f1 := cell_keep HB.out (Nat.le_refl _) e1
    have f2 := cell_keep HB.out (Nat.le_refl _) e2
    have z1 := lt_of_cell c0
    have z2 := lt_of_cell f0
    clear d0 d1 d2 e0 e1 e2
    have hk0 : (0 : Int) ≤ (k : Int) := by omega
    have hk1 : (k : Int) < (l.length : Int) := by omega
    have hk2 : (k : Int) < (m.length : Int) := by omega
    have hne := Later.some wr
    rcases triEq_cases (at' l k) (at' m k) with ⟨ht, h1, h2, h3⟩ | ⟨ht, h1⟩
    ·have HN : Hid (∀ i, i < k + 1 → triEq (at' l i) (at' m i) = true) := fun i hi => by
      by_cases e : i = k
      ·subst e; exact ht
      ·exact HA.out i (by omega)
     clear ht
     go_wp2
     refine wp_region_later (by kernel_rfl) (by kernel_rfl) ?_
     repeat (go_big_quiet_step (fail))
     refine wpQuiet_nil ?_
     rintro _ ⟨x, rfl⟩
     have HB2 : Hid (Below w.heap.size w x.val) := below_step HB.out x.below
     go_wp2
     exact ⟨⟨k + 1, by omega, by go_num, HN, HB2⟩, by simp [intOf]; omega⟩
    ·have HS : Hid (sameT l m = false) := sameT_stop hlt ht
     clear ht
     rcases h1 with h1 | ⟨h1, h2⟩ | ⟨h1, h2, h3⟩
     all_goals
      go_wp2
      refine wp_region_later (by kernel_rfl) (by kernel_rfl) ?_
      repeat (go_big_quiet_step (fail))
      refine wpQuiet_nil ?_
      rintro _ ⟨x, rfl⟩
      have HB2 : Hid (Below w.heap.size w x.val) := below_step HB.out x.below
      go_wp2
      go_ret
      exact ⟨ret_boolS HS.out.symm, HB2.out⟩
   ·have HS : Hid (sameT l m = true) := sameT_all HLEN.out (fun i hi => HA.out i (by omega))
    go_wp2
    go_ret
    exact ⟨ret_boolS HS.out.symm, HB.out⟩
 ·have hq : (((l.length : Nat) : Int) != ((m.length : Nat) : Int)) = true := by simp; omega
  have HS : Hid (sameT l m = false) := sameT_len hlen
  clear hlen
  go_enter Tryz.func73, Tryz.ntmps73
  go_wp2
  go_ret
  exact ⟨ret_boolS HS.out.symm, Below.refl _ _⟩
set_option maxHeartbeats 3200000 in
theorem equalPoint_any (u v : Value) (l m : List Tri) (w : World) (hu : TrisAt w u l) (hv : TrisAt w v m) (hl : l.length ≤ 1048576) :
  Calls Tryz.prog 74 #[u, v] w fun e w' => e = .returned (.bool (sameT l m)) ∧ Below w.heap.size w w' := by
 obtain ⟨au, cu, rfl, -, hmu, hcu⟩ := hu
 obtain ⟨av, cv, rfl, -, hmv, hcv⟩ := hv
 have HU : Hid (∀ i t, l[i]? = some t → ∃ b off, au = some ⟨b, off, none⟩ ∧ w.cell? ⟨b, off + i * 3, none⟩ = some (.string t.s) ∧ w.cell? ⟨b, off + i * 3 + 1, none⟩ = some (.int .i64 t.x) ∧ w.cell? ⟨b, off + i * 3 + 2, none⟩ = some (.int .i64 t.y)) := hcu
 have HV : Hid (∀ i t, m[i]? = some t → ∃ b off, av = some ⟨b, off, none⟩ ∧ w.cell? ⟨b, off + i * 3, none⟩ = some (.string t.s) ∧ w.cell? ⟨b, off + i * 3 + 1, none⟩ = some (.int .i64 t.x) ∧ w.cell? ⟨b, off + i * 3 + 2, none⟩ = some (.int .i64 t.y)) := hcv
 unfold maxLen at hmu hmv
 clear hcu hcv
 by_cases hlen : l.length = m.length
 ·have hq : (((l.length : Nat) : Int) != ((m.length : Nat) : Int)) = false := by simp [hlen]
  have HLEN : Hid (l.length = m.length) := hlen
  have hl1 : l.length ≤ m.length := by omega
  clear hlen
  go_enter Tryz.func74, Tryz.ntmps74
  go_wp2
  go_loopw [13, 5] (fun i _ wr => ∃ k : Nat, k ≤ l.length ∧ i = .int .i64 k ∧ Hid (∀ i, i < k → triEq (at' l i) (at' m i) = true) ∧ Hid (Below w.heap.size w wr)) (fun i _ _ => l.length - (intOf i).toNat)
  case atStart => exact ⟨0, Nat.zero_le _, rfl, fun i hi => absurd hi (Nat.not_lt_zero _), Below.refl _ _⟩
  case round =>
   obtain ⟨k, hk, rfl, HA, HB⟩ := hrel
   by_cases hlt : k < l.length
   ·obtain ⟨b, off, rfl, d0, d1, d2⟩ := HU.out k _ (at_get hlt)
    obtain ⟨b', off', rfl, e0, e1, e2⟩ := HV.out k _ (at_get (show k < m.length by omega))
    have c0 := cell_keep HB.out (Nat.le_refl _) d0
    have c1 := cell_keep HB.out (Nat.le_refl _) d1
    have c2 := cell_keep HB.out (Nat.le_refl _) d2
    have f0 := cell_keep HB.out (Nat.le_refl _) e0
    have f1 := cell_keep HB.out (Nat.le_refl _) e1
    have f2 := cell_keep HB.out (Nat.le_refl _) e2
    have z1 := lt_of_cell c0
    have z2 := lt_of_cell f0
    clear d0 d1 d2 e0 e1 e2
    have hk0 : (0 : Int) ≤ (k : Int) := by omega
    have hk1 : (k : Int) < (l.length : Int) := by omega
    have hk2 : (k : Int) < (m.length : Int) := by omega
    have hne := Later.some wr
    rcases triEq_cases (at' l k) (at' m k) with ⟨ht, h1, h2, h3⟩ | ⟨ht, h1⟩
    ·have HN : Hid (∀ i, i < k + 1 → triEq (at' l i) (at' m i) = true) := fun i hi => by
      by_cases e : i = k
      ·subst e; exact ht
      ·exact HA.out i (by omega)
     clear ht
     go_wp2
     refine wp_region_later (by kernel_rfl) (by kernel_rfl) ?_
     repeat (go_big_quiet_step (fail))
     refine wpQuiet_nil ?_
     rintro _ ⟨x, rfl⟩
     have HB2 : Hid (Below w.heap.size w x.val) := below_step HB.out x.below
     go_wp2
     exact ⟨⟨k + 1, by omega, by go_num, HN, HB2⟩, by simp [intOf]; omega⟩
    ·have HS : Hid (sameT l m = false) := sameT_stop hlt ht
     clear ht
     rcases h1 with h1 | ⟨h1, h2⟩ | ⟨h1, h2, h3⟩
     all_goals
      go_wp2
      refine wp_region_later (by kernel_rfl) (by kernel_rfl) ?_
      repeat (go_big_quiet_step (fail))
      refine wpQuiet_nil ?_
      rintro _ ⟨x, rfl⟩
      have HB2 : Hid (Below w.heap.size w x.val) := below_step HB.out x.below
      go_wp2
      go_ret
      exact ⟨ret_boolS HS.out.symm, HB2.out⟩
   ·have HS : Hid (sameT l m = true) := sameT_all HLEN.out (fun i hi => HA.out i (by omega))
    go_wp2
    go_ret
    exact ⟨ret_boolS HS.out.symm, HB.out⟩
 ·have hq : (((l.length : Nat) : Int) != ((m.length : Nat) : Int)) = true := by simp; omega
  have HS : Hid (sameT l m = false) := sameT_len hlen
  clear hlen
  go_enter Tryz.func74, Tryz.ntmps74
  go_wp2
  go_ret
  exact ⟨ret_boolS HS.out.symm, Below.refl _ _⟩
def sameBs (ks ks' ps ps' : List Tri) : Bool := sameT ks ks' && sameT ps ps'
set_option maxHeartbeats 3200000 in
theorem sameBase_any (vk vp uk up : Value) (ks ps ks' ps' : List Tri) (w : World) (hk : TrisAt w vk ks) (hp : TrisAt w vp ps) (hk' : TrisAt w uk ks') (hp' : TrisAt w up ps') (lk : ks.length ≤ 1048576) (lp : ps.length ≤ 1048576) :
  Calls Tryz.prog 42 #[.agg #[vk, vp], .agg #[uk, up]] w fun e w' => e = .returned (.bool (sameBs ks ks' ps ps')) ∧ Below w.heap.size w w' := by
 have H1 : Hid (TrisAt w vk ks ∧ TrisAt w vp ps ∧ TrisAt w uk ks' ∧ TrisAt w up ps') := ⟨hk, hp, hk', hp'⟩
 obtain ⟨ak, ck, rfl, -, -, -⟩ := hk
 obtain ⟨ap, cp, rfl, -, -, -⟩ := hp
 obtain ⟨ak', ck', rfl, -, -, -⟩ := hk'
 obtain ⟨ap', cp', rfl, -, -, -⟩ := hp'
 have HX0 : Hid (OwnAt w ((w.alloc (.cells #[.slice ak ks.length ck, .slice ap ps.length cp] 26)).alloc (.cells #[.slice ak' ks'.length ck', .slice ap' ps'.length cp'] 26)) [[.slice ak ks.length ck, .slice ap ps.length cp], [.slice ak' ks'.length ck', .slice ap' ps'.length cp']]) := ((OwnAt.start w).push rfl _ _).push (by simp) _ _
 go_enter Tryz.func42, Tryz.ntmps42
 go_wp2_with fail
 refine (equalKind_any _ _ ks ks' _ (H1.out.1.keep HX0.out.below) (H1.out.2.2.1.keep HX0.out.below) lk).mono ?_
 rintro e w1 ⟨rfl, hb1⟩
 have HX1 : Hid (OwnAt w w1 _) := HX0.out.call hb1
 clear HX0 hb1
 cases hs : sameT ks ks'
 ·have HE : Hid (sameBs ks ks' ps ps' = false) := by show _ = _; unfold sameBs; rw [hs]; rfl
  clear hs
  go_wp2
  go_ret
  exact ⟨ret_boolS HE.out.symm, HX1.out.below⟩
 ·have HE : Hid (sameBs ks ks' ps ps' = sameT ps ps') := by show _ = _; unfold sameBs; rw [hs]; rfl
  clear hs
  have x0 : w1.cell? ⟨w.heap.size, 0, none⟩ = some (.slice ak ks.length ck) := (HX1.out.has 0 _ rfl 0 _ rfl).1
  have x1 : w1.cell? ⟨w.heap.size, 1, none⟩ = some (.slice ap ps.length cp) := (HX1.out.has 0 _ rfl 1 _ rfl).1
  have y0 : w1.cell? ⟨w.heap.size + 1, 0, none⟩ = some (.slice ak' ks'.length ck') := (HX1.out.has 1 _ rfl 0 _ rfl).1
  have y1 : w1.cell? ⟨w.heap.size + 1, 1, none⟩ = some (.slice ap' ps'.length cp') := (HX1.out.has 1 _ rfl 1 _ rfl).1
  go_wp2_with fail
  refine (equalPoint_any _ _ ps ps' _ (H1.out.2.1.keep HX1.out.below) (H1.out.2.2.2.keep HX1.out.below) lp).mono ?_
  rintro e w2 ⟨rfl, hb2⟩
  have HB2 : Hid (Below w.heap.size w w2) := below_step HX1.out.below hb2
  clear hb2
  go_wp2
  go_ret
  exact ⟨ret_boolS HE.out.symm, HB2.out⟩
end Go.Proofs.YtibpkhmiahamcaaGreat
namespace Go.Proofs.YtibpkhmiahamcaaGreat
open Go.RowKit
attribute [local go_sem] Later.cell Later.frozen
set_option maxHeartbeats 6400000 in
theorem wBase_any (vk vp uk up : Value) (ks ps ks' ps' : List Tri) (w : World) (hk : TrisAt w vk ks) (hp : TrisAt w vp ps) (hk' : TrisAt w uk ks') (hp' : TrisAt w up ps') (lk : ks.length ≤ 1048576) (lp : ps.length ≤ 1048576) :
  Calls Tryz.prog 32 #[.agg #[vk, vp], .agg #[uk, up]] w fun e w' => e = .returned (.bool (sameBs ks ks' ps ps')) ∧ Below w.heap.size w w' := by
 obtain ⟨ak, ck, rfl, -, m1, h1⟩ := hk
 obtain ⟨ap, cp, rfl, -, m2, h2⟩ := hp
 obtain ⟨ak', ck', rfl, -, m3, h3⟩ := hk'
 obtain ⟨ap', cp', rfl, -, m4, h4⟩ := hp'
 unfold maxLen at m1 m2 m3 m4
 have HU : Hid (∀ i t, ks[i]? = some t → ∃ b off, ak = some ⟨b, off, none⟩ ∧ w.cell? ⟨b, off + i * 3, none⟩ = some (.string t.s) ∧ w.cell? ⟨b, off + i * 3 + 1, none⟩ = some (.int .i64 t.x) ∧ w.cell? ⟨b, off + i * 3 + 2, none⟩ = some (.int .i64 t.y)) := h1
 have HP : Hid (∀ i t, ps[i]? = some t → ∃ b off, ap = some ⟨b, off, none⟩ ∧ w.cell? ⟨b, off + i * 3, none⟩ = some (.string t.s) ∧ w.cell? ⟨b, off + i * 3 + 1, none⟩ = some (.int .i64 t.x) ∧ w.cell? ⟨b, off + i * 3 + 2, none⟩ = some (.int .i64 t.y)) := h2
 have HV : Hid (∀ i t, ks'[i]? = some t → ∃ b off, ak' = some ⟨b, off, none⟩ ∧ w.cell? ⟨b, off + i * 3, none⟩ = some (.string t.s) ∧ w.cell? ⟨b, off + i * 3 + 1, none⟩ = some (.int .i64 t.x) ∧ w.cell? ⟨b, off + i * 3 + 2, none⟩ = some (.int .i64 t.y)) := h3
 have HQ : Hid (∀ i t, ps'[i]? = some t → ∃ b off, ap' = some ⟨b, off, none⟩ ∧ w.cell? ⟨b, off + i * 3, none⟩ = some (.string t.s) ∧ w.cell? ⟨b, off + i * 3 + 1, none⟩ = some (.int .i64 t.x) ∧ w.cell? ⟨b, off + i * 3 + 2, none⟩ = some (.int .i64 t.y)) := h4
 clear h1 h2 h3 h4
 have HX0 : Hid (OwnAt w ((w.alloc (.cells #[.slice ak ks.length ck, .slice ap ps.length cp] 26)).alloc (.cells #[.slice ak' ks'.length ck', .slice ap' ps'.length cp'] 26)) [[.slice ak ks.length ck, .slice ap ps.length cp], [.slice ak' ks'.length ck', .slice ap' ps'.length cp']]) := ((OwnAt.start w).push rfl _ _).push (by simp) _ _
 by_cases hl1 : ks.length = ks'.length
 ·have q1 : (((ks.length : Nat) : Int) != ((ks'.length : Nat) : Int)) = false := by simp [hl1]
  have HLK : Hid (ks.length = ks'.length) := hl1
  have le1 : ks.length ≤ ks'.length := by omega
  clear hl1
  by_cases hl2 : ps.length = ps'.length
  ·have q2 : (((ps.length : Nat) : Int) != ((ps'.length : Nat) : Int)) = false := by simp [hl2]
   have HLP : Hid (ps.length = ps'.length) := hl2
   have le2 : ps.length ≤ ps'.length := by omega
   clear hl2
   go_enter Tryz.func32, Tryz.ntmps32
   go_wp2
   go_loopw [5] (fun i wr => ∃ k : Nat, k ≤ ks.length ∧ i = .int .i64 k ∧ Hid (∀ i, i < k → triEq (at' ks i) (at' ks' i) = true) ∧ Hid (OwnAt w wr [[.slice ak ks.length ck, .slice ap ps.length cp], [.slice ak' ks'.length ck', .slice ap' ps'.length cp']])) (fun i _ => ks.length - (intOf i).toNat)
   case atStart => exact ⟨0, Nat.zero_le _, rfl, fun i hi => absurd hi (Nat.not_lt_zero _), HX0.out⟩
   case round =>
    clear HX0
    obtain ⟨k, hk, rfl, HA, HX⟩ := hrel
    have x0 : wr.cell? ⟨w.heap.size, 0, none⟩ = some (.slice ak ks.length ck) := (HX.out.has 0 _ rfl 0 _ rfl).1
    have x1 : wr.cell? ⟨w.heap.size, 1, none⟩ = some (.slice ap ps.length cp) := (HX.out.has 0 _ rfl 1 _ rfl).1
    have y0 : wr.cell? ⟨w.heap.size + 1, 0, none⟩ = some (.slice ak' ks'.length ck') := (HX.out.has 1 _ rfl 0 _ rfl).1
    have y1 : wr.cell? ⟨w.heap.size + 1, 1, none⟩ = some (.slice ap' ps'.length cp') := (HX.out.has 1 _ rfl 1 _ rfl).1
    have hxz : w.heap.size < wr.heap.size := lt_of_cell x0
    have hyz : w.heap.size + 1 < wr.heap.size := lt_of_cell y0
    by_cases hlt : k < ks.length
    ·obtain ⟨b, off, rfl, d0, d1, d2⟩ := HU.out k _ (at_get hlt)
     obtain ⟨b', off', rfl, e0, e1, e2⟩ := HV.out k _ (at_get (show k < ks'.length by omega))
     have c0 := cell_keep HX.out.below (Nat.le_refl _) d0
     have c1 := cell_keep HX.out.below (Nat.le_refl _) d1
     have c2 := cell_keep HX.out.below (Nat.le_refl _) d2
     have f0 := cell_keep HX.out.below (Nat.le_refl _) e0
     have f1 := cell_keep HX.out.below (Nat.le_refl _) e1
     have f2 := cell_keep HX.out.below (Nat.le_refl _) e2
     have z1 := lt_of_cell c0
     have z2 := lt_of_cell f0
     clear d0 d1 d2 e0 e1 e2
     have hk0 : (0 : Int) ≤ (k : Int) := by omega
     have hk1 : (k : Int) < (ks.length : Int) := by omega
     have hk2 : (k : Int) < (ks'.length : Int) := by omega
     have hne := Later.some wr
     rcases triEq_cases (at' ks k) (at' ks' k) with ⟨ht, h1, h2, h3⟩ | ⟨ht, h1⟩
     ·have HN : Hid (∀ i, i < k + 1 → triEq (at' ks i) (at' ks' i) = true) := fun i hi => by
       by_cases e : i = k
       ·subst e; exact ht
       ·exact HA.out i (by omega)
      clear ht
      go_wp2
      refine wp_region_later (by kernel_rfl) (by kernel_rfl) ?_
      repeat (go_big_quiet_step (fail))
      refine wpQuiet_nil ?_
      rintro _ ⟨x, rfl⟩
      have HB2 : Hid (OwnAt w x.val _) := HX.out.call x.below
      go_wp2
      exact ⟨⟨k + 1, by omega, by go_num, HN, HB2⟩, by simp [intOf]; omega⟩
     ·have HS : Hid (sameBs ks ks' ps ps' = false) := by
       have h0 := sameT_stop hlt ht
       show _ = _
       unfold sameBs
       rw [h0]
       simp
      clear ht
      rcases h1 with h1 | ⟨h1, h2⟩ | ⟨h1, h2, h3⟩
      all_goals
       go_wp2
       refine wp_region_later (by kernel_rfl) (by kernel_rfl) ?_
       repeat (go_big_quiet_step (fail))
       refine wpQuiet_nil ?_
       rintro _ ⟨x, rfl⟩
       have HB2 : Hid (Below w.heap.size w x.val) := below_step HX.out.below x.below
       go_wp2
       go_ret
       exact ⟨ret_boolS HS.out.symm, HB2.out⟩
    ·have HK1 : Hid (sameT ks ks' = true) := sameT_all HLK.out (fun i hi => HA.out i (by omega))
     have HX0 := HX
     clear HX HA
     go_wp2
     clear x0 x1 y0 y1 hxz hyz
     go_loopw [6] (fun i wr => ∃ k : Nat, k ≤ ps.length ∧ i = .int .i64 k ∧ Hid (∀ i, i < k → triEq (at' ps i) (at' ps' i) = true) ∧ Hid (OwnAt w wr [[.slice ak ks.length ck, .slice ap ps.length cp], [.slice ak' ks'.length ck', .slice ap' ps'.length cp']])) (fun i _ => ps.length - (intOf i).toNat)
     case atStart => exact ⟨0, Nat.zero_le _, rfl, fun i hi => absurd hi (Nat.not_lt_zero _), HX0.out⟩
     case round =>
      clear HX0
      obtain ⟨k, hk, rfl, HA, HX⟩ := hrel
      have x0 : wr.cell? ⟨w.heap.size, 0, none⟩ = some (.slice ak ks.length ck) := (HX.out.has 0 _ rfl 0 _ rfl).1
      have x1 : wr.cell? ⟨w.heap.size, 1, none⟩ = some (.slice ap ps.length cp) := (HX.out.has 0 _ rfl 1 _ rfl).1
      have y0 : wr.cell? ⟨w.heap.size + 1, 0, none⟩ = some (.slice ak' ks'.length ck') := (HX.out.has 1 _ rfl 0 _ rfl).1
      have y1 : wr.cell? ⟨w.heap.size + 1, 1, none⟩ = some (.slice ap' ps'.length cp') := (HX.out.has 1 _ rfl 1 _ rfl).1
      have hxz : w.heap.size < wr.heap.size := lt_of_cell x0
      have hyz : w.heap.size + 1 < wr.heap.size := lt_of_cell y0
      by_cases hlt : k < ps.length
      ·obtain ⟨b, off, rfl, d0, d1, d2⟩ := HP.out k _ (at_get hlt)
       obtain ⟨b', off', rfl, e0, e1, e2⟩ := HQ.out k _ (at_get (show k < ps'.length by omega))
       have c0 := cell_keep HX.out.below (Nat.le_refl _) d0
       have c1 := cell_keep HX.out.below (Nat.le_refl _) d1
       have c2 := cell_keep HX.out.below (Nat.le_refl _) d2
       have f0 := cell_keep HX.out.below (Nat.le_refl _) e0
       have f1 := cell_keep HX.out.below (Nat.le_refl _) e1
       have f2 := cell_keep HX.out.below (Nat.le_refl _) e2
       have z1 := lt_of_cell c0
       have z2 := lt_of_cell f0
       clear d0 d1 d2 e0 e1 e2
       have hk0 : (0 : Int) ≤ (k : Int) := by omega
       have hk1 : (k : Int) < (ps.length : Int) := by omega
       have hk2 : (k : Int) < (ps'.length : Int) := by omega
       have hne := Later.some wr
       rcases triEq_cases (at' ps k) (at' ps' k) with ⟨ht, h1, h2, h3⟩ | ⟨ht, h1⟩
       ·have HN : Hid (∀ i, i < k + 1 → triEq (at' ps i) (at' ps' i) = true) := fun i hi => by
         by_cases e : i = k
         ·subst e; exact ht
         ·exact HA.out i (by omega)
        clear ht
        go_wp2
        refine wp_region_later (by kernel_rfl) (by kernel_rfl) ?_
        repeat (go_big_quiet_step (fail))
        refine wpQuiet_nil ?_
        rintro _ ⟨x, rfl⟩
        have HB2 : Hid (OwnAt w x.val _) := HX.out.call x.below
        go_wp2
        exact ⟨⟨k + 1, by omega, by go_num, HN, HB2⟩, by simp [intOf]; omega⟩
       ·have HS : Hid (sameBs ks ks' ps ps' = false) := by
         have h0 := sameT_stop hlt ht
         show _ = _
         unfold sameBs
         rw [h0]
         simp
        clear ht
        rcases h1 with h1 | ⟨h1, h2⟩ | ⟨h1, h2, h3⟩
        all_goals
         go_wp2
         refine wp_region_later (by kernel_rfl) (by kernel_rfl) ?_
         repeat (go_big_quiet_step (fail))
         refine wpQuiet_nil ?_
         rintro _ ⟨x, rfl⟩
         have HB2 : Hid (Below w.heap.size w x.val) := below_step HX.out.below x.below
         go_wp2
         go_ret
         exact ⟨ret_boolS HS.out.symm, HB2.out⟩
      ·have HS : Hid (sameBs ks ks' ps ps' = true) := by
        have h0 := sameT_all HLP.out (fun i hi => HA.out i (by omega))
        show _ = _
        unfold sameBs
        rw [HK1.out, h0]
        rfl
       go_wp2
       go_ret
       exact ⟨ret_boolS HS.out.symm, HX.out.below⟩
  ·have q2 : (((ps.length : Nat) : Int) != ((ps'.length : Nat) : Int)) = true := by simp; omega
   have HS : Hid (sameBs ks ks' ps ps' = false) := by
    show _ = _
    unfold sameBs
    rw [sameT_len hl2]
    simp
   clear hl2
   go_enter Tryz.func32, Tryz.ntmps32
   go_wp2
   go_ret
   exact ⟨ret_boolS HS.out.symm, HX0.out.below⟩
 ·have q1 : (((ks.length : Nat) : Int) != ((ks'.length : Nat) : Int)) = true := by simp; omega
  have HS : Hid (sameBs ks ks' ps ps' = false) := by
   show _ = _
   unfold sameBs
   rw [sameT_len hl1]
   simp
  clear hl1
  go_enter Tryz.func32, Tryz.ntmps32
  go_wp2
  go_ret
  exact ⟨ret_boolS HS.out.symm, HX0.out.below⟩
end Go.Proofs.YtibpkhmiahamcaaGreat
namespace Go.Proofs.YtibpkhmiahamcaaGreat
open Go.RowKit
attribute [local go_sem] Later.cell Later.frozen
theorem sameT_refl (l : List Tri) : sameT l l = true := sameT_all rfl (fun i _ => by simp [triEq])
theorem sameBs_refl (ks ps : List Tri) : sameBs ks ks ps ps = true := by
 unfold sameBs
 rw [sameT_refl, sameT_refl]
 rfl
set_option maxRecDepth 100000 in
set_option maxHeartbeats 6400000 in
theorem wBook_same (vk vp ve uk up ue : Value) (ks ps : List Tri) (es : List Ent) (w : World) (hB : BookAt w vk vp ve ks ps es) (hB' : BookAt w uk up ue ks ps es) (sB : BSmall ks ps es) :
  Calls Tryz.prog 8 #[.agg #[vk, vp, ve], .agg #[uk, up, ue]] w fun e w' => e = .returned (.bool true) ∧ Below w.heap.size w w' := by
 have lk := sB.k
 have lp := sB.p
 have le := sB.e
 have HL : Hid (∀ e ∈ es, e.fs.length ≤ 1048576) := sB.f
 have HW : Hid (∀ wx : World, Below w.heap.size w wx → Calls Tryz.prog 32 #[.agg #[vk, vp], .agg #[uk, up]] wx fun e w' => e = .returned (.bool true) ∧ Below wx.heap.size wx w') := fun wx hx => by
  have h := wBase_any vk vp uk up ks ps ks ps wx (hB.k.keep hx) (hB.p.keep hx) (hB'.k.keep hx) (hB'.p.keep hx) lk lp
  rw [sameBs_refl] at h
  exact h
 clear sB
 obtain ⟨⟨ak, ck, rfl, -, m1, -⟩, ⟨ap, cp, rfl, -, m2, -⟩, ⟨ae, ce, rfl, -, m3, h3⟩⟩ := hB
 obtain ⟨⟨ak', ck', rfl, -, n1, -⟩, ⟨ap', cp', rfl, -, n2, -⟩, ⟨ae', ce', rfl, -, n3, h3'⟩⟩ := hB'
 unfold maxLen at m1 m2 m3 n1 n2 n3
 have HE : Hid (∀ i e, es[i]? = some e → ∃ b off, ae = some ⟨b, off, none⟩ ∧ EntAt w b (off + i * 2) e) := h3
 have HE' : Hid (∀ i e, es[i]? = some e → ∃ b off, ae' = some ⟨b, off, none⟩ ∧ EntAt w b (off + i * 2) e) := h3'
 clear h3 h3'
 have HX0 : Hid (OwnAt w ((w.alloc (.cells #[.slice ak ks.length ck, .slice ap ps.length cp, .slice ae es.length ce] 29)).alloc (.cells #[.slice ak' ks.length ck', .slice ap' ps.length cp', .slice ae' es.length ce'] 29)) [[.slice ak ks.length ck, .slice ap ps.length cp, .slice ae es.length ce], [.slice ak' ks.length ck', .slice ap' ps.length cp', .slice ae' es.length ce']]) := ((OwnAt.start w).push rfl _ _).push (by simp) _ _
 have HZ : Hid (∀ wr : World, OwnAt w wr [[.slice ak ks.length ck, .slice ap ps.length cp, .slice ae es.length ce], [.slice ak' ks.length ck', .slice ap' ps.length cp', .slice ae' es.length ce']] → (wr.cell? ⟨w.heap.size, 0, none⟩ = some (.slice ak ks.length ck) ∧ wr.cell? ⟨w.heap.size, 1, none⟩ = some (.slice ap ps.length cp) ∧ wr.cell? ⟨w.heap.size, 2, none⟩ = some (.slice ae es.length ce)) ∧ wr.cell? ⟨w.heap.size + 1, 0, none⟩ = some (.slice ak' ks.length ck') ∧ wr.cell? ⟨w.heap.size + 1, 1, none⟩ = some (.slice ap' ps.length cp') ∧ wr.cell? ⟨w.heap.size + 1, 2, none⟩ = some (.slice ae' es.length ce')) := fun wr h => ⟨⟨(h.has 0 _ rfl 0 _ rfl).1, (h.has 0 _ rfl 1 _ rfl).1, (h.has 0 _ rfl 2 _ rfl).1⟩, (h.has 1 _ rfl 0 _ rfl).1, (h.has 1 _ rfl 1 _ rfl).1, (h.has 1 _ rfl 2 _ rfl).1⟩
 obtain ⟨⟨x0, x1, x2⟩, y0, y1, y2⟩ := HZ.out _ HX0.out
 go_enter Tryz.func8, Tryz.ntmps8
 go_wp2_with fail
 clear x0 x1 x2 y0 y1 y2
 generalize ((w.alloc (.cells #[.slice ak ks.length ck, .slice ap ps.length cp, .slice ae es.length ce] 29)).alloc (.cells #[.slice ak' ks.length ck', .slice ap' ps.length cp', .slice ae' es.length ce'] 29)) = w0 at *
 refine (HW.out _ HX0.out.below).mono ?_
 rintro e w1 ⟨rfl, hb1⟩
 have HX1 : Hid (OwnAt w w1 _) := HX0.out.call hb1
 clear HX0 hb1 HW
 obtain ⟨⟨x0, x1, x2⟩, y0, y1, y2⟩ := HZ.out _ HX1.out
 go_wp2
 clear x0 x1 x2 y0 y1 y2
 go_loopw [5] (fun i wr => ∃ k : Nat, k ≤ es.length ∧ i = .int .i64 k ∧ Hid (OwnAt w wr [[.slice ak ks.length ck, .slice ap ps.length cp, .slice ae es.length ce], [.slice ak' ks.length ck', .slice ap' ps.length cp', .slice ae' es.length ce']])) (fun i _ => es.length - (intOf i).toNat)
 case atStart => exact ⟨0, Nat.zero_le _, rfl, HX1.out⟩
 case round =>
  clear HX1
  obtain ⟨k, hk, rfl, HX⟩ := hrel
  obtain ⟨⟨x0, x1, x2⟩, y0, y1, y2⟩ := HZ.out _ HX.out
  have hxz : w.heap.size < wr.heap.size := lt_of_cell x0
  have hyz : w.heap.size + 1 < wr.heap.size := lt_of_cell y0
  by_cases hlt : k < es.length
  ·obtain ⟨b, off, rfl, fv, d0, d1, hf⟩ := HE.out k _ (eat_get hlt)
   obtain ⟨b', off', rfl, fv', e0, e1, hf'⟩ := HE'.out k _ (eat_get hlt)
   have HFL := HL.out _ (List.mem_of_getElem? (eat_get hlt))
   generalize eat es k = en at *
   obtain ⟨fa, fc, rfl, -, fm, hf3⟩ := hf
   obtain ⟨fa', fc', rfl, -, fm', hf3'⟩ := hf'
   unfold maxLen at fm fm'
   have HF : Hid (∀ i f, en.fs[i]? = some f → ∃ b off, fa = some ⟨b, off, none⟩ ∧ FldAt w b (off + i * 3) f) := hf3
   have HF' : Hid (∀ i f, en.fs[i]? = some f → ∃ b off, fa' = some ⟨b, off, none⟩ ∧ FldAt w b (off + i * 3) f) := hf3'
   have HD : Hid (∀ wx : World, OwnAt w wx [[.slice ak ks.length ck, .slice ap ps.length cp, .slice (some ⟨b, off, none⟩) es.length ce], [.slice ak' ks.length ck', .slice ap' ps.length cp', .slice (some ⟨b', off', none⟩) es.length ce']] → wx.cell? ⟨b, off + k * 2, none⟩ = some (.string en.name) ∧ wx.cell? ⟨b, off + k * 2 + 1, none⟩ = some (.slice fa en.fs.length fc) ∧ wx.cell? ⟨b', off' + k * 2, none⟩ = some (.string en.name) ∧ wx.cell? ⟨b', off' + k * 2 + 1, none⟩ = some (.slice fa' en.fs.length fc')) := fun wx h => ⟨cell_keep h.below (Nat.le_refl _) d0, cell_keep h.below (Nat.le_refl _) d1, cell_keep h.below (Nat.le_refl _) e0, cell_keep h.below (Nat.le_refl _) e1⟩
   clear d0 d1 e0 e1 hf3 hf3'
   obtain ⟨c0, c1, f0, f1⟩ := HD.out _ HX.out
   have z1 := lt_of_cell c0
   have z2 := lt_of_cell f0
   have hk0 : (0 : Int) ≤ (k : Int) := by omega
   have hk1 : (k : Int) < (es.length : Int) := by omega
   have hne := Later.some wr
   go_wp2
   refine wp_region_later (by kernel_rfl) (by kernel_rfl) ?_
   repeat (go_big_quiet_step (fail))
   refine wpQuiet_nil ?_
   rintro _ ⟨x, rfl⟩
   have HX2 : Hid (OwnAt w x.val _) := HX.out.call x.below
   clear x0 x1 x2 y0 y1 y2 c0 c1 f0 f1 z1 z2 hxz hyz HX hne
   go_wp2
   go_loopw [6] (fun i wr => ∃ j : Nat, j ≤ en.fs.length ∧ i = .int .i64 j ∧ Hid (OwnAt w wr [[.slice ak ks.length ck, .slice ap ps.length cp, .slice (some ⟨b, off, none⟩) es.length ce], [.slice ak' ks.length ck', .slice ap' ps.length cp', .slice (some ⟨b', off', none⟩) es.length ce']])) (fun i _ => en.fs.length - (intOf i).toNat)
   case atStart => exact ⟨0, Nat.zero_le _, rfl, HX2.out⟩
   case round =>
    clear HX2
    obtain ⟨j, hj, rfl, HX⟩ := hrel
    obtain ⟨⟨x0, x1, x2⟩, y0, y1, y2⟩ := HZ.out _ HX.out
    obtain ⟨c0, c1, f0, f1⟩ := HD.out _ HX.out
    have hxz : w.heap.size < wr.heap.size := lt_of_cell x0
    have hyz : w.heap.size + 1 < wr.heap.size := lt_of_cell y0
    have z1 := lt_of_cell c0
    have z2 := lt_of_cell f0
    by_cases hjl : j < en.fs.length
    ·obtain ⟨g, o, hga, g0, g1, g2⟩ := HF.out j _ (fat_get hjl)
     obtain ⟨g', o', hga', l0, l1, l2⟩ := HF'.out j _ (fat_get hjl)
     subst hga
     subst hga'
     generalize fat en.fs j = fd at *
     have s0 := cell_keep HX.out.below (Nat.le_refl _) g0
     have s1 := cell_keep HX.out.below (Nat.le_refl _) g1
     have s2 := cell_keep HX.out.below (Nat.le_refl _) g2
     have r0 := cell_keep HX.out.below (Nat.le_refl _) l0
     have r1 := cell_keep HX.out.below (Nat.le_refl _) l1
     have r2 := cell_keep HX.out.below (Nat.le_refl _) l2
     have z3 := lt_of_cell s0
     have z4 := lt_of_cell r0
     clear g0 g1 g2 l0 l1 l2
     have hj0 : (0 : Int) ≤ (j : Int) := by omega
     have hj1 : (j : Int) < (en.fs.length : Int) := by omega
     have hne := Later.some wr
     go_wp2
     refine wp_region_later (by kernel_rfl) (by kernel_rfl) ?_
     repeat (go_big_quiet_step (fail))
     refine wpQuiet_nil ?_
     rintro _ ⟨x, rfl⟩
     have HB2 : Hid (OwnAt w x.val _) := HX.out.call x.below
     go_wp2
     exact ⟨⟨j + 1, by omega, by go_num, HB2⟩, by simp [intOf]; omega⟩
    ·have hje : j = en.fs.length := by omega
     subst hje
     go_wp2
     exact ⟨⟨k + 1, by omega, by go_num, HX⟩, by simp [intOf]; omega⟩
  ·have hke : k = es.length := by omega
   subst hke
   have HB : Hid (Below w.heap.size w wr) := HX.out.below
   go_wp2
   go_ret
   exact ⟨rfl, HB.out⟩
end Go.Proofs.YtibpkhmiahamcaaGreat
namespace Go.Proofs.YtibpkhmiahamcaaGreat
open Go.RowKit
attribute [local go_sem] Later.cell Later.frozen
set_option maxHeartbeats 6400000 in
theorem l3SameBase_any (vk vp uk up : Value) (ks ps ks' ps' : List Tri) (w : World) (hk : TrisAt w vk ks) (hp : TrisAt w vp ps) (hk' : TrisAt w uk ks') (hp' : TrisAt w up ps') (lk : ks.length ≤ 1048576) (lp : ps.length ≤ 1048576) :
  Calls Tryz.prog 43 #[.agg #[vk, vp], .agg #[uk, up]] w fun e w' => e = .returned (.bool (sameBs ks ks' ps ps')) ∧ Below w.heap.size w w' := by
 obtain ⟨ak, ck, rfl, -, m1, h1⟩ := hk
 obtain ⟨ap, cp, rfl, -, m2, h2⟩ := hp
 obtain ⟨ak', ck', rfl, -, m3, h3⟩ := hk'
 obtain ⟨ap', cp', rfl, -, m4, h4⟩ := hp'
 unfold maxLen at m1 m2 m3 m4
 have HU : Hid (∀ i t, ks[i]? = some t → ∃ b off, ak = some ⟨b, off, none⟩ ∧ w.cell? ⟨b, off + i * 3, none⟩ = some (.string t.s) ∧ w.cell? ⟨b, off + i * 3 + 1, none⟩ = some (.int .i64 t.x) ∧ w.cell? ⟨b, off + i * 3 + 2, none⟩ = some (.int .i64 t.y)) := h1
 have HP : Hid (∀ i t, ps[i]? = some t → ∃ b off, ap = some ⟨b, off, none⟩ ∧ w.cell? ⟨b, off + i * 3, none⟩ = some (.string t.s) ∧ w.cell? ⟨b, off + i * 3 + 1, none⟩ = some (.int .i64 t.x) ∧ w.cell? ⟨b, off + i * 3 + 2, none⟩ = some (.int .i64 t.y)) := h2
 have HV : Hid (∀ i t, ks'[i]? = some t → ∃ b off, ak' = some ⟨b, off, none⟩ ∧ w.cell? ⟨b, off + i * 3, none⟩ = some (.string t.s) ∧ w.cell? ⟨b, off + i * 3 + 1, none⟩ = some (.int .i64 t.x) ∧ w.cell? ⟨b, off + i * 3 + 2, none⟩ = some (.int .i64 t.y)) := h3
 have HQ : Hid (∀ i t, ps'[i]? = some t → ∃ b off, ap' = some ⟨b, off, none⟩ ∧ w.cell? ⟨b, off + i * 3, none⟩ = some (.string t.s) ∧ w.cell? ⟨b, off + i * 3 + 1, none⟩ = some (.int .i64 t.x) ∧ w.cell? ⟨b, off + i * 3 + 2, none⟩ = some (.int .i64 t.y)) := h4
 clear h1 h2 h3 h4
 have HX0 : Hid (OwnAt w ((w.alloc (.cells #[.slice ak ks.length ck, .slice ap ps.length cp] 26)).alloc (.cells #[.slice ak' ks'.length ck', .slice ap' ps'.length cp'] 26)) [[.slice ak ks.length ck, .slice ap ps.length cp], [.slice ak' ks'.length ck', .slice ap' ps'.length cp']]) := ((OwnAt.start w).push rfl _ _).push (by simp) _ _
 by_cases hl1 : ks.length = ks'.length
 ·have q1 : (((ks.length : Nat) : Int) != ((ks'.length : Nat) : Int)) = false := by simp [hl1]
  have HLK : Hid (ks.length = ks'.length) := hl1
  have le1 : ks.length ≤ ks'.length := by omega
  clear hl1
  by_cases hl2 : ps.length = ps'.length
  ·have q2 : (((ps.length : Nat) : Int) != ((ps'.length : Nat) : Int)) = false := by simp [hl2]
   have HLP : Hid (ps.length = ps'.length) := hl2
   have le2 : ps.length ≤ ps'.length := by omega
   clear hl2
   go_enter Tryz.func43, Tryz.ntmps43
   go_wp2
   go_loopw [5] (fun i wr => ∃ k : Nat, k ≤ ks.length ∧ i = .int .i64 k ∧ Hid (∀ i, i < k → triEq (at' ks i) (at' ks' i) = true) ∧ Hid (OwnAt w wr [[.slice ak ks.length ck, .slice ap ps.length cp], [.slice ak' ks'.length ck', .slice ap' ps'.length cp']])) (fun i _ => ks.length - (intOf i).toNat)
   case atStart => exact ⟨0, Nat.zero_le _, rfl, fun i hi => absurd hi (Nat.not_lt_zero _), HX0.out⟩
   case round =>
    clear HX0
    obtain ⟨k, hk, rfl, HA, HX⟩ := hrel
    have x0 : wr.cell? ⟨w.heap.size, 0, none⟩ = some (.slice ak ks.length ck) := (HX.out.has 0 _ rfl 0 _ rfl).1
    have x1 : wr.cell? ⟨w.heap.size, 1, none⟩ = some (.slice ap ps.length cp) := (HX.out.has 0 _ rfl 1 _ rfl).1
    have y0 : wr.cell? ⟨w.heap.size + 1, 0, none⟩ = some (.slice ak' ks'.length ck') := (HX.out.has 1 _ rfl 0 _ rfl).1
    have y1 : wr.cell? ⟨w.heap.size + 1, 1, none⟩ = some (.slice ap' ps'.length cp') := (HX.out.has 1 _ rfl 1 _ rfl).1
    have hxz : w.heap.size < wr.heap.size := lt_of_cell x0
    have hyz : w.heap.size + 1 < wr.heap.size := lt_of_cell y0
    by_cases hlt : k < ks.length
    ·obtain ⟨b, off, rfl, d0, d1, d2⟩ := HU.out k _ (at_get hlt)
     obtain ⟨b', off', rfl, e0, e1, e2⟩ := HV.out k _ (at_get (show k < ks'.length by omega))
     have c0 := cell_keep HX.out.below (Nat.le_refl _) d0
     have c1 := cell_keep HX.out.below (Nat.le_refl _) d1
     have c2 := cell_keep HX.out.below (Nat.le_refl _) d2
     have f0 := cell_keep HX.out.below (Nat.le_refl _) e0
     have f1 := cell_keep HX.out.below (Nat.le_refl _) e1
     have f2 := cell_keep HX.out.below (Nat.le_refl _) e2
     have z1 := lt_of_cell c0
     have z2 := lt_of_cell f0
     clear d0 d1 d2 e0 e1 e2
     have hk0 : (0 : Int) ≤ (k : Int) := by omega
     have hk1 : (k : Int) < (ks.length : Int) := by omega
     have hk2 : (k : Int) < (ks'.length : Int) := by omega
     have hne := Later.some wr
     rcases triEq_cases (at' ks k) (at' ks' k) with ⟨ht, h1, h2, h3⟩ | ⟨ht, h1⟩
     ·have HN : Hid (∀ i, i < k + 1 → triEq (at' ks i) (at' ks' i) = true) := fun i hi => by
       by_cases e : i = k
       ·subst e; exact ht
       ·exact HA.out i (by omega)
      clear ht
      go_wp2
      refine wp_region_later (by kernel_rfl) (by kernel_rfl) ?_
      repeat (go_big_quiet_step (fail))
      refine wpQuiet_nil ?_
      rintro _ ⟨x, rfl⟩
      have HB2 : Hid (OwnAt w x.val _) := HX.out.call x.below
      go_wp2
      exact ⟨⟨k + 1, by omega, by go_num, HN, HB2⟩, by simp [intOf]; omega⟩
     ·have HS : Hid (sameBs ks ks' ps ps' = false) := by
       have h0 := sameT_stop hlt ht
       show _ = _
       unfold sameBs
       rw [h0]
       simp
      clear ht
      rcases h1 with h1 | ⟨h1, h2⟩ | ⟨h1, h2, h3⟩
      all_goals
       go_wp2
       refine wp_region_later (by kernel_rfl) (by kernel_rfl) ?_
       repeat (go_big_quiet_step (fail))
       refine wpQuiet_nil ?_
       rintro _ ⟨x, rfl⟩
       have HB2 : Hid (Below w.heap.size w x.val) := below_step HX.out.below x.below
       go_wp2
       go_ret
       exact ⟨ret_boolS HS.out.symm, HB2.out⟩
    ·have HK1 : Hid (sameT ks ks' = true) := sameT_all HLK.out (fun i hi => HA.out i (by omega))
     have HX0 := HX
     clear HX HA
     go_wp2
     clear x0 x1 y0 y1 hxz hyz
     go_loopw [6] (fun i wr => ∃ k : Nat, k ≤ ps.length ∧ i = .int .i64 k ∧ Hid (∀ i, i < k → triEq (at' ps i) (at' ps' i) = true) ∧ Hid (OwnAt w wr [[.slice ak ks.length ck, .slice ap ps.length cp], [.slice ak' ks'.length ck', .slice ap' ps'.length cp']])) (fun i _ => ps.length - (intOf i).toNat)
     case atStart => exact ⟨0, Nat.zero_le _, rfl, fun i hi => absurd hi (Nat.not_lt_zero _), HX0.out⟩
     case round =>
      clear HX0
      obtain ⟨k, hk, rfl, HA, HX⟩ := hrel
      have x0 : wr.cell? ⟨w.heap.size, 0, none⟩ = some (.slice ak ks.length ck) := (HX.out.has 0 _ rfl 0 _ rfl).1
      have x1 : wr.cell? ⟨w.heap.size, 1, none⟩ = some (.slice ap ps.length cp) := (HX.out.has 0 _ rfl 1 _ rfl).1
      have y0 : wr.cell? ⟨w.heap.size + 1, 0, none⟩ = some (.slice ak' ks'.length ck') := (HX.out.has 1 _ rfl 0 _ rfl).1
      have y1 : wr.cell? ⟨w.heap.size + 1, 1, none⟩ = some (.slice ap' ps'.length cp') := (HX.out.has 1 _ rfl 1 _ rfl).1
      have hxz : w.heap.size < wr.heap.size := lt_of_cell x0
      have hyz : w.heap.size + 1 < wr.heap.size := lt_of_cell y0
      by_cases hlt : k < ps.length
      ·obtain ⟨b, off, rfl, d0, d1, d2⟩ := HP.out k _ (at_get hlt)
       obtain ⟨b', off', rfl, e0, e1, e2⟩ := HQ.out k _ (at_get (show k < ps'.length by omega))
       have c0 := cell_keep HX.out.below (Nat.le_refl _) d0
       have c1 := cell_keep HX.out.below (Nat.le_refl _) d1
       have c2 := cell_keep HX.out.below (Nat.le_refl _) d2
       have f0 := cell_keep HX.out.below (Nat.le_refl _) e0
       have f1 := cell_keep HX.out.below (Nat.le_refl _) e1
       have f2 := cell_keep HX.out.below (Nat.le_refl _) e2
       have z1 := lt_of_cell c0
       have z2 := lt_of_cell f0
       clear d0 d1 d2 e0 e1 e2
       have hk0 : (0 : Int) ≤ (k : Int) := by omega
       have hk1 : (k : Int) < (ps.length : Int) := by omega
       have hk2 : (k : Int) < (ps'.length : Int) := by omega
       have hne := Later.some wr
       rcases triEq_cases (at' ps k) (at' ps' k) with ⟨ht, h1, h2, h3⟩ | ⟨ht, h1⟩
       ·have HN : Hid (∀ i, i < k + 1 → triEq (at' ps i) (at' ps' i) = true) := fun i hi => by
         by_cases e : i = k
         ·subst e; exact ht
         ·exact HA.out i (by omega)
        clear ht
        go_wp2
        refine wp_region_later (by kernel_rfl) (by kernel_rfl) ?_
        repeat (go_big_quiet_step (fail))
        refine wpQuiet_nil ?_
        rintro _ ⟨x, rfl⟩
        have HB2 : Hid (OwnAt w x.val _) := HX.out.call x.below
        go_wp2
        exact ⟨⟨k + 1, by omega, by go_num, HN, HB2⟩, by simp [intOf]; omega⟩
       ·have HS : Hid (sameBs ks ks' ps ps' = false) := by
         have h0 := sameT_stop hlt ht
         show _ = _
         unfold sameBs
         rw [h0]
         simp
        clear ht
        rcases h1 with h1 | ⟨h1, h2⟩ | ⟨h1, h2, h3⟩
        all_goals
         go_wp2
         refine wp_region_later (by kernel_rfl) (by kernel_rfl) ?_
         repeat (go_big_quiet_step (fail))
         refine wpQuiet_nil ?_
         rintro _ ⟨x, rfl⟩
         have HB2 : Hid (Below w.heap.size w x.val) := below_step HX.out.below x.below
         go_wp2
         go_ret
         exact ⟨ret_boolS HS.out.symm, HB2.out⟩
      ·have HS : Hid (sameBs ks ks' ps ps' = true) := by
        have h0 := sameT_all HLP.out (fun i hi => HA.out i (by omega))
        show _ = _
        unfold sameBs
        rw [HK1.out, h0]
        rfl
       go_wp2
       go_ret
       exact ⟨ret_boolS HS.out.symm, HX.out.below⟩
  ·have q2 : (((ps.length : Nat) : Int) != ((ps'.length : Nat) : Int)) = true := by simp; omega
   have HS : Hid (sameBs ks ks' ps ps' = false) := by
    show _ = _
    unfold sameBs
    rw [sameT_len hl2]
    simp
   clear hl2
   go_enter Tryz.func43, Tryz.ntmps43
   go_wp2
   go_ret
   exact ⟨ret_boolS HS.out.symm, HX0.out.below⟩
 ·have q1 : (((ks.length : Nat) : Int) != ((ks'.length : Nat) : Int)) = true := by simp; omega
  have HS : Hid (sameBs ks ks' ps ps' = false) := by
   show _ = _
   unfold sameBs
   rw [sameT_len hl1]
   simp
  clear hl1
  go_enter Tryz.func43, Tryz.ntmps43
  go_wp2
  go_ret
  exact ⟨ret_boolS HS.out.symm, HX0.out.below⟩
end Go.Proofs.YtibpkhmiahamcaaGreat
