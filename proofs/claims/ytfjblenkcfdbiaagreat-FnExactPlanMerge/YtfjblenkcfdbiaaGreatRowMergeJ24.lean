/-
  For the proof of merge_holds: part 24 (NewsS).
-/
import Derived.Test.YtfjblenkcfdbiaaGreatRowMergeJ23
namespace Go.Proofs.YtfjblenkcfdbiaaGreat
open Go.RowKit
attribute [local go_sem] Later.cell Later.frozen

theorem find_at {α : Type} {p : α → Bool} {l : List α} {k : Nat} {x : α} (hk : l[k]? = some x) (hp : p x = true) (hn : ∀ (j : Nat) (y : α), j < k → l[j]? = some y → p y = false) : l.find? p = some x := by
  obtain ⟨hlt, rfl⟩ := List.getElem?_eq_some_iff.1 hk
  rw [List.find?_eq_some_iff_getElem]
  exact ⟨hp, k, hlt, rfl, fun j hj => by simp [hn j _ hj (List.getElem?_eq_getElem (by omega))]⟩
theorem find_no {α : Type} {p : α → Bool} {l : List α} (hn : ∀ (j : Nat) (y : α), l[j]? = some y → p y = false) : l.find? p = none := by
  rw [List.find?_eq_none]
  intro x hx
  obtain ⟨i, hi, rfl⟩ := List.getElem_of_mem hx
  simp [hn i _ (List.getElem?_eq_getElem hi)]

set_option maxHeartbeats 1600000 in
theorem l3At_any (vk vp ve : Value) (es : List Ent) (n : ByteArray) (w : World) (he : EntsAt w ve es) :
    Calls Tryz.prog 27 #[.agg #[vk, vp, ve], .string n] w fun e w' => ∃ r : Int, e = .returned (.int .i64 r) ∧ ((r = -1 ∧ es.find? (fun e => decide (e.name = n)) = none) ∨ ∃ k : Nat, k < es.length ∧ r = (k : Int) ∧ es.find? (fun e => decide (e.name = n)) = some (eat es k)) ∧ Below w.heap.size w w' := by
  obtain ⟨ae, ce, rfl, hlc, hcm, hc⟩ := he
  unfold maxLen at hcm
  have HC : Hid (∀ i f, es[i]? = some f → ∃ b off, ae = some ⟨b, off, none⟩ ∧ EntAt w b (off + i * 2) f) := hc
  clear hc
  have HX0 : Hid (OwnAt w (w.alloc (.cells #[vk, vp, .slice ae es.length ce] 39)) [[vk, vp, .slice ae es.length ce]]) := (OwnAt.start w).push rfl _ _
  have y0 : (w.alloc (.cells #[vk, vp, .slice ae es.length ce] 39)).cell? ⟨w.heap.size, 0, none⟩ = some vk := by simp
  have y1 : (w.alloc (.cells #[vk, vp, .slice ae es.length ce] 39)).cell? ⟨w.heap.size, 1, none⟩ = some vp := by simp
  have y2 : (w.alloc (.cells #[vk, vp, .slice ae es.length ce] 39)).cell? ⟨w.heap.size, 2, none⟩ = some (.slice ae es.length ce) := by simp
  go_enter Tryz.func27, Tryz.ntmps27
  go_wp2
  generalize w.alloc (.cells #[vk, vp, .slice ae es.length ce] 39) = w1 at *
  go_loopw [5] (fun i wr => wr = w1 ∧ ∃ k : Nat, k ≤ es.length ∧ i = .int .i64 k ∧ Hid (∀ j y, j < k → es[j]? = some y → decide (y.name = n) = false)) (fun i _ => es.length - (intOf i).toNat)
  case atStart => exact ⟨rfl, 0, Nat.zero_le _, rfl, fun j y hj => absurd hj (Nat.not_lt_zero _)⟩
  case round =>
    obtain ⟨rfl, k, hk, rfl, HA⟩ := hrel
    by_cases hlt : k < es.length
    · obtain ⟨b, off, rfl, hc⟩ := HC.out k _ (eat_get hlt)
      obtain ⟨fv, d0, d1, hfl⟩ := hc.keep HX0.out.below
      obtain ⟨fa, fc, rfl, -, -, -⟩ := hfl
      have hk0 : (0 : Int) ≤ (k : Int) := by omega
      have hk1 : (k : Int) < (es.length : Int) := by omega
      have HG : Hid (es[k]? = some (eat es k)) := eat_get hlt
      by_cases hx : (eat es k).name = n
      · have h1 : ((eat es k).name.toList == n.toList) = true := str_eq hx
        have HX : Hid ((eat es k).name = n) := hx
        clear hx hc
        go_wp2
        go_ret
        exact ⟨_, rfl, .inr ⟨k, hlt, rfl, find_at HG.out (by simp [HX.out]) HA.out⟩, HX0.out.below⟩
      · have h1 : ((eat es k).name.toList == n.toList) = false := str_ne hx
        have HX : Hid (¬ (eat es k).name = n) := hx
        clear hx hc
        go_wp2
        exact ⟨⟨by trivial, k + 1, by omega, by go_num, fun j y hj hy => if e : j = k then by subst e; rw [HG.out] at hy; cases hy; simp [HX.out] else HA.out j y (by omega) hy⟩, by simp [intOf]; omega⟩
    · go_wp2
      go_ret
      exact ⟨_, rfl, .inl ⟨rfl, find_no fun j y hy => HA.out j y (by have := (List.getElem?_eq_some_iff.1 hy).1; omega) hy⟩, HX0.out.below⟩

set_option maxHeartbeats 3200000 in
theorem l4Has_any (vk vp ve : Value) (es : List Ent) (n : ByteArray) (f : Fld) (w : World) (he : EntsAt w ve es) :
    Calls Tryz.prog 43 #[.agg #[vk, vp, ve], .string n, .agg #[.int .i64 f.what, .int .i64 f.num, .string f.v]] w fun e w' => e = .returned (.bool (hasS es (chgOf n f))) ∧ Below w.heap.size w w' := by
  have HEN : Hid (EntsAt w ve es) := he
  obtain ⟨ae, ce, rfl, hlc, hcm, hc⟩ := he
  unfold maxLen at hcm
  have HC : Hid (∀ i f, es[i]? = some f → ∃ b off, ae = some ⟨b, off, none⟩ ∧ EntAt w b (off + i * 2) f) := hc
  clear hc
  have HX0 : Hid (OwnAt w ((w.alloc (.cells #[vk, vp, .slice ae es.length ce] 39)).alloc (.cells #[.int .i64 f.what, .int .i64 f.num, .string f.v] 62)) [[vk, vp, .slice ae es.length ce], [.int .i64 f.what, .int .i64 f.num, .string f.v]]) := ((OwnAt.start w).push rfl _ _).push (by simp) _ _
  have HH : Hid (hasS es (chgOf n f) = match es.find? fun e => decide (e.name = n) with
      | none => false
      | some e => match e.fs.find? fun g => decide (g.what = f.what) with
        | none => false
        | some g => !latC (chgOf n f) (chgOf e.name g)) := rfl
  go_enter Tryz.func43, Tryz.ntmps43
  go_wp2_with fail
  refine (l3At_any _ _ _ es n _ (HEN.out.keep HX0.out.below)).mono ?_
  rintro e w1 ⟨r, rfl, hr, hb1⟩
  have HX1 : Hid (OwnAt w w1 [[vk, vp, .slice ae es.length ce], [.int .i64 f.what, .int .i64 f.num, .string f.v]]) := HX0.out.call hb1
  clear HX0 hb1
  have y0 : w1.cell? ⟨w.heap.size, 0, none⟩ = some vk := (HX1.out.has 0 _ rfl 0 _ rfl).1
  have y1 : w1.cell? ⟨w.heap.size, 1, none⟩ = some vp := (HX1.out.has 0 _ rfl 1 _ rfl).1
  have y2 : w1.cell? ⟨w.heap.size, 2, none⟩ = some (.slice ae es.length ce) := (HX1.out.has 0 _ rfl 2 _ rfl).1
  rcases hr with ⟨rfl, hf⟩ | ⟨k0, hk0, rfl, hf⟩
  · have HF : Hid (hasS es (chgOf n f) = false) := by show _ = _; rw [HH.out, hf]
    clear hf HH
    go_wp2
    go_loopw [8, 9] (fun _ _ wr => wr = w1) (fun _ _ _ => 0)
    case atStart => rfl
    case round =>
      obtain rfl := hrel
      go_wp2
      go_ret
      exact ⟨ret_bool HF.out.symm, HX1.out.below⟩
  · obtain ⟨b, off, rfl, hc⟩ := HC.out k0 _ (eat_get hk0)
    obtain ⟨fv, d0, d1, hfl⟩ := hc.keep HX1.out.below
    obtain ⟨fa, fc, rfl, hfc, hfm, hfe⟩ := hfl
    unfold maxLen at hfm
    have HFE : Hid (∀ i g, (eat es k0).fs[i]? = some g → ∃ b off, fa = some ⟨b, off, none⟩ ∧ FldAt w1 b (off + i * 3) g) := hfe
    have HF : Hid (hasS es (chgOf n f) = match (eat es k0).fs.find? fun g => decide (g.what = f.what) with
        | none => false
        | some g => !latC (chgOf n f) (chgOf (eat es k0).name g)) := by show _ = _; rw [HH.out, hf]
    clear hf HH hfe hc
    have hk1 : (0 : Int) ≤ (k0 : Int) := by omega
    have hk2 : (k0 : Int) < (es.length : Int) := by omega
    generalize eat es k0 = t at *
    obtain ⟨nm, fs⟩ := t
    dsimp only at *
    have HD : Hid (w1.cell? ⟨b, off + k0 * 2, none⟩ = some (.string nm) ∧ w1.cell? ⟨b, off + k0 * 2 + 1, none⟩ = some (.slice fa fs.length fc)) := ⟨d0, d1⟩
    clear d0 d1 y0 y1 y2
    go_wp2
    go_loopw [8, 9] (fun i _ wr => ∃ k : Nat, k ≤ fs.length ∧ i = .int .i64 k ∧ Below w1.heap.size w1 wr ∧ Hid (∀ (j : Nat) (y : Fld), j < k → fs[j]? = some y → decide (y.what = f.what) = false)) (fun i _ _ => fs.length - (intOf i).toNat)
    case atStart => exact ⟨0, Nat.zero_le _, rfl, Below.refl _ _, fun j y hj => absurd hj (Nat.not_lt_zero _)⟩
    case round =>
      obtain ⟨k, hk, rfl, hbr, HA⟩ := hrel
      have HXr : Hid (OwnAt w wr [[vk, vp, .slice (some ⟨b, off, none⟩) es.length ce], [.int .i64 f.what, .int .i64 f.num, .string f.v]]) := HX1.out.call hbr
      have y0 : wr.cell? ⟨w.heap.size, 0, none⟩ = some vk := (HXr.out.has 0 _ rfl 0 _ rfl).1
      have y1 : wr.cell? ⟨w.heap.size, 1, none⟩ = some vp := (HXr.out.has 0 _ rfl 1 _ rfl).1
      have y2 : wr.cell? ⟨w.heap.size, 2, none⟩ = some (.slice (some ⟨b, off, none⟩) es.length ce) := (HXr.out.has 0 _ rfl 2 _ rfl).1
      have z0 : wr.cell? ⟨w.heap.size + 1, 0, none⟩ = some (.int .i64 f.what) := (HXr.out.has 1 _ rfl 0 _ rfl).1
      have z1 : wr.cell? ⟨w.heap.size + 1, 1, none⟩ = some (.int .i64 f.num) := (HXr.out.has 1 _ rfl 1 _ rfl).1
      have z2 : wr.cell? ⟨w.heap.size + 1, 2, none⟩ = some (.string f.v) := (HXr.out.has 1 _ rfl 2 _ rfl).1
      have d0 := cell_keep hbr (Nat.le_refl _) HD.out.1
      have d1 := cell_keep hbr (Nat.le_refl _) HD.out.2
      have zz : w.heap.size + 1 < wr.heap.size := lt_of_cell z0
      by_cases hlt : k < fs.length
      · obtain ⟨gb, go, rfl, hg⟩ := HFE.out k _ (fat_get hlt)
        obtain ⟨g0, g1, g2⟩ := hg.keep hbr (Nat.le_refl _)
        have HG : Hid (fs[k]? = some (fat fs k)) := fat_get hlt
        have hk3 : (0 : Int) ≤ (k : Int) := by omega
        have hk4 : (k : Int) < (fs.length : Int) := by omega
        by_cases hx : (fat fs k).what = f.what
        · have hq : ((fat fs k).what == f.what) = true := by simp [hx]
          have HX : Hid ((fat fs k).what = f.what) := hx
          have HBN : Hid (Below wr.heap.size wr (wr.alloc (.cells #[.int .i64 (fat fs k).what, .int .i64 (fat fs k).num, .string (fat fs k).v] 62))) := (Below.refl _ _).alloc (Nat.le_refl _) _
          clear hx hg
          go_wp2_with fail
          refine (l3Later_any (chgOf n f) (chgOf nm (fat fs k)) _).mono ?_
          rintro e w2 ⟨rfl, hb2⟩
          have HRES : Hid ((!latC (chgOf n f) (chgOf nm (fat fs k))) = hasS es (chgOf n f)) := by
            show _ = _
            rw [HF.out, find_at HG.out (by simp [HX.out]) HA.out]
          go_wp2
          go_ret
          exact ⟨ret_bool HRES.out, below_step (below_step HXr.out.below HBN.out) hb2⟩
        · have hq : ((fat fs k).what == f.what) = false := by simp [hx]
          have HX : Hid (¬ (fat fs k).what = f.what) := hx
          have HBN : Hid (Below wr.heap.size wr (wr.alloc (.cells #[.int .i64 (fat fs k).what, .int .i64 (fat fs k).num, .string (fat fs k).v] 62))) := (Below.refl _ _).alloc (Nat.le_refl _) _
          clear hx hg
          go_wp2
          exact ⟨⟨k + 1, by omega, by go_num, below_step hbr HBN.out, fun j y hj hy => if e : j = k then by subst e; rw [HG.out] at hy; cases hy; simp [HX.out] else HA.out j y (by omega) hy⟩, by simp [intOf]; omega⟩
      · have HRES : Hid (hasS es (chgOf n f) = false) := by
          show _ = _
          rw [HF.out, find_no fun j y hy => HA.out j y (by have := (List.getElem?_eq_some_iff.1 hy).1; omega) hy]
        go_wp2
        go_ret
        exact ⟨ret_bool HRES.out.symm, HXr.out.below⟩
end Go.Proofs.YtfjblenkcfdbiaaGreat
