/-
  Joined: St12, St12c.
-/
import Derived.Test.YtfjblenkcfdbiaaGreatDoorSt11
import Derived.Test.YtfjblenkcfdbiaaGreatDoorFitsS2
set_option linter.unusedSimpArgs false
set_option linter.unusedVariables false

namespace Go.Proofs.YtfjblenkcfdbiaaGreatDoor.Sd
open Go.RowKit Go.Proofs.YtfjblenkcfdbiaaGreatDoor

theorem find_at {α : Type} {p : α → Bool} {l : List α} {k : Nat} {x : α} (hk : l[k]? = some x) (hp : p x = true) (hn : ∀ (j : Nat) (y : α), j < k → l[j]? = some y → p y = false) : l.find? p = some x := by
  obtain ⟨hlt, rfl⟩ := List.getElem?_eq_some_iff.1 hk
  rw [List.find?_eq_some_iff_getElem]
  exact ⟨hp, k, hlt, rfl, fun j hj => by simp [hn j _ hj (List.getElem?_eq_getElem (by omega))]⟩
theorem find_no {α : Type} {p : α → Bool} {l : List α} (hn : ∀ (j : Nat) (y : α), l[j]? = some y → p y = false) : l.find? p = none := by
  rw [List.find?_eq_none]
  intro x hx
  obtain ⟨i, hi, rfl⟩ := List.getElem_of_mem hx
  simp [hn i _ (List.getElem?_eq_getElem hi)]

set_option maxHeartbeats 1600000 in
theorem l3At_any (vk vp ve : Value) (es : List Ent) (n : ByteArray) (w : World) (he : EntsAt w ve es) :
    Calls Tryz.prog 30 #[.agg #[vk, vp, ve], .string n] w fun e w' => ∃ r : Int, e = .returned (.int .i64 r) ∧ ((r = -1 ∧ es.find? (fun e => decide (e.name = n)) = none) ∨ ∃ k : Nat, k < es.length ∧ r = (k : Int) ∧ es.find? (fun e => decide (e.name = n)) = some (eat es k)) ∧ Below w.heap.size w w' := by
  obtain ⟨ae, ce, rfl, hlc, hcm, hc⟩ := he
  unfold maxLen at hcm
  have HC : Hid (∀ i f, es[i]? = some f → ∃ b off, ae = some ⟨b, off, none⟩ ∧ EntAt w b (off + i * 2) f) := hc
  clear hc
  have HX0 : Hid (OwnAt w (w.alloc (.cells #[vk, vp, .slice ae es.length ce] 37)) [[vk, vp, .slice ae es.length ce]]) := (OwnAt.start w).push rfl _ _
  have y0 : (w.alloc (.cells #[vk, vp, .slice ae es.length ce] 37)).cell? ⟨w.heap.size, 0, none⟩ = some vk := by simp
  have y1 : (w.alloc (.cells #[vk, vp, .slice ae es.length ce] 37)).cell? ⟨w.heap.size, 1, none⟩ = some vp := by simp
  have y2 : (w.alloc (.cells #[vk, vp, .slice ae es.length ce] 37)).cell? ⟨w.heap.size, 2, none⟩ = some (.slice ae es.length ce) := by simp
  go_enter Tryz.func30, Tryz.ntmps30
  go_wp2
  generalize w.alloc (.cells #[vk, vp, .slice ae es.length ce] 37) = w1 at *
  go_loopw [5] (fun i wr => wr = w1 ∧ ∃ k : Nat, k ≤ es.length ∧ i = .int .i64 k ∧ Hid (∀ j y, j < k → es[j]? = some y → decide (y.name = n) = false)) (fun i _ => es.length - (intOf i).toNat)
  case atStart => exact ⟨rfl, 0, Nat.zero_le _, rfl, fun j y hj => absurd hj (Nat.not_lt_zero _)⟩
  case round =>
    obtain ⟨rfl, k, hk, rfl, HA⟩ := hrel
    by_cases hlt : k < es.length
    · obtain ⟨b, off, rfl, hc⟩ := HC.out k _ (eat_get hlt)
      obtain ⟨fv, d0, d1, hfl⟩ := hc.keep HX0.out.below
      obtain ⟨fa, fc, rfl, -, -, -⟩ := hfl
      have hk0 : (0 : Int) ≤ (k : Int) := by omega
      have hk1 : (k : Int) < (es.length : Int) := by omega
      have HG : Hid (es[k]? = some (eat es k)) := eat_get hlt
      by_cases hx : (eat es k).name = n
      · have h1 : ((eat es k).name.toList == n.toList) = true := str_eq hx
        have HX : Hid ((eat es k).name = n) := hx
        clear hx hc
        go_wp2
        go_ret
        exact ⟨_, rfl, .inr ⟨k, hlt, rfl, find_at HG.out (by simp [HX.out]) HA.out⟩, HX0.out.below⟩
      · have h1 : ((eat es k).name.toList == n.toList) = false := str_ne hx
        have HX : Hid (¬ (eat es k).name = n) := hx
        clear hx hc
        go_wp2
        exact ⟨⟨by trivial, k + 1, by omega, by go_num, fun j y hj hy => if e : j = k then by subst e; rw [HG.out] at hy; cases hy; simp [HX.out] else HA.out j y (by omega) hy⟩, by simp [intOf]; omega⟩
    · go_wp2
      go_ret
      exact ⟨_, rfl, .inl ⟨rfl, find_no fun j y hy => HA.out j y (by have := (List.getElem?_eq_some_iff.1 hy).1; omega) hy⟩, HX0.out.below⟩

def fndV (fs : List Fld) (x : Int) : Option Fld := fs.find? fun f => decide (f.what = x)
def valV (fs : List Fld) (x : Int) : ByteArray := match fndV fs x with
  | some f => f.v
  | none => ⟨#[]⟩
theorem fndV_at {fs : List Fld} {k : Nat} {x : Int} (hk : k < fs.length) (h : (fat fs k).what = x) (hn : ∀ j, j < k → ¬ (fat fs j).what = x) : fndV fs x = some (fat fs k) := by
  have e : ∀ j (hj : j < fs.length), fat fs j = fs[j] := fun j hj => by simp [fat, hj]
  unfold fndV
  rw [e k hk, List.find?_eq_some_iff_getElem]
  exact ⟨by rw [← e k hk]; simp [h], k, hk, rfl, fun j hj => by
    have := hn j hj
    rw [e j (by omega)] at this
    simp [this]⟩
theorem fndV_no {fs : List Fld} {x : Int} (hn : ∀ j, j < fs.length → ¬ (fat fs j).what = x) : fndV fs x = none := by
  unfold fndV
  rw [List.find?_eq_none]
  intro y hy
  obtain ⟨i, hi, rfl⟩ := List.getElem_of_mem hy
  have := hn i hi
  have e : fat fs i = fs[i] := by simp [fat, hi]
  rw [e] at this
  simp [this]
set_option maxHeartbeats 1600000 in
theorem l6Value_any (nm : ByteArray) (fv : Value) (fs : List Fld) (x : Int) (w : World) (hf : FldsAt w fv fs) :
    Calls Tryz.prog 67 #[.agg #[.string nm, fv], .int .i64 x] w fun e w' => e = .returned (.string (valV fs x)) ∧ Below w.heap.size w w' := by
  obtain ⟨a, cap, rfl, hlc, hcm, hc⟩ := hf
  unfold maxLen at hcm
  have HC : Hid (∀ i f, fs[i]? = some f → ∃ b off, a = some ⟨b, off, none⟩ ∧ FldAt w b (off + i * 3) f) := hc
  clear hc
  have HB : Hid (Below w.heap.size w (w.alloc (.cells #[.string nm, .slice a fs.length cap] 60))) := (Below.refl _ _).alloc (Nat.le_refl _) _
  have q0 : (w.alloc (.cells #[.string nm, .slice a fs.length cap] 60)).cell? ⟨w.heap.size, 1, none⟩ = some (.slice a fs.length cap) := by simp [go_sem]
  have QC : Hid (∀ i f, fs[i]? = some f → ∃ b off, a = some ⟨b, off, none⟩ ∧ FldAt (w.alloc (.cells #[.string nm, .slice a fs.length cap] 60)) b (off + i * 3) f) := fun i f h => by
    obtain ⟨b, off, h1, h2⟩ := HC.out i f h
    exact ⟨b, off, h1, h2.keep HB.out (Nat.le_refl _)⟩
  go_enter Tryz.func67, Tryz.ntmps67
  go_wp2_with fail
  generalize (w.alloc (.cells #[.string nm, .slice a fs.length cap] 60)) = w1 at *
  go_loopw [5] (fun i wr => ∃ k : Nat, k ≤ fs.length ∧ i = .int .i64 k ∧ wr = w1 ∧ Hid (∀ j, j < k → ¬ (fat fs j).what = x)) (fun i _ => fs.length - (intOf i).toNat)
  case atStart => exact ⟨0, Nat.zero_le _, rfl, rfl, fun j hj => absurd hj (Nat.not_lt_zero _)⟩
  case round =>
    obtain ⟨k, hk, rfl, hwr, HA⟩ := hrel
    subst hwr
    by_cases hlt : k < fs.length
    · obtain ⟨b, off, rfl, d0, d1, d2⟩ := QC.out k _ (fat_get hlt)
      have hk0 : (0 : Int) ≤ (k : Int) := by omega
      have hk1 : (k : Int) < (fs.length : Int) := by omega
      by_cases hx : (fat fs k).what = x
      · have hxb : ((fat fs k).what == x) = true := by simp [hx]
        have HE : Hid (valV fs x = (fat fs k).v) := by show _ = _; unfold valV; rw [fndV_at hlt hx HA.out]
        go_wp2
        go_ret
        exact ⟨by rw [HE.out]; rfl, HB.out⟩
      · have hxb : ((fat fs k).what == x) = false := by simp [hx]
        have HN : Hid (∀ j, j < k + 1 → ¬ (fat fs j).what = x) := fun j hj => if e : j = k then by rw [e]; exact hx else HA.out j (by omega)
        go_wp2
        exact ⟨⟨k + 1, by omega, by go_num, by first | rfl | trivial, HN.out⟩, by simp [intOf]; omega⟩
    · have HE : Hid (valV fs x = ⟨#[]⟩) := by show _ = _; unfold valV; rw [fndV_no fun j hj => HA.out j (by omega)]
      go_wp2
      go_ret
      exact ⟨by rw [HE.out]; rfl, HB.out⟩
/-- Whats that go up. -/
def AscF (fs : List Fld) : Prop := ∀ i, i < fs.length → ascF fs i = true
theorem asc_wlt {fs : List Fld} (h : AscF fs) : ∀ i j, i < j → j < fs.length → (fat fs i).what < (fat fs j).what := by
  have one : ∀ i, i + 1 < fs.length → (fat fs i).what < (fat fs (i + 1)).what := fun i hi => by
    have := h (i + 1) hi
    unfold ascF at this
    simp at this
    exact this
  intro i j hij
  induction j with
  | zero => omega
  | succ j ih =>
    intro hj
    by_cases e : i = j
    · subst e; exact one i hj
    · have h1 := ih (by omega) (by omega)
      have h2 := one j hj
      omega
/-- The first and the last that say something are one. -/
theorem last_find {x : Int} : ∀ (fs : List Fld), (∀ i j, i < j → j < fs.length → (fat fs i).what < (fat fs j).what) → lastV fs x = fndV fs x
  | [], _ => rfl
  | f :: r, h => by
    have hr : ∀ i j, i < j → j < r.length → (fat r i).what < (fat r j).what := fun i j hij hj => by
      have := h (i + 1) (j + 1) (by omega) (by simp; omega)
      simpa [fat] using this
    have ih := last_find (x := x) r hr
    unfold fndV at ih ⊢
    rw [lastV, ih]
    by_cases hf : f.what = x
    · have hnone : r.find? (fun f => decide (f.what = x)) = none := by
        rw [List.find?_eq_none]
        intro y hy
        obtain ⟨i, hi, rfl⟩ := List.getElem_of_mem hy
        have h1 := h 0 (i + 1) (by omega) (by simp; omega)
        have h2 : (fat (f :: r) (i + 1)) = r[i] := by simp [fat, hi]
        have h3 : fat (f :: r) 0 = f := by simp [fat]
        rw [h2, h3, hf] at h1
        simp; omega
      rw [hnone]
      simp [hf]
    · rw [List.find?_cons_of_neg (by simp [hf])]
      cases r.find? (fun f => decide (f.what = x)) with
      | none => simp [hf]
      | some g => rfl
theorem book_ascF {ks ps : List Tri} {es : List Ent} (h : bookB ks ps es = true) : ∀ e ∈ es, AscF e.fs := fun e he => by
  obtain ⟨i, hi, rfl⟩ := List.getElem_of_mem he
  unfold bookB at h
  rw [Bool.and_eq_true, Bool.and_eq_true] at h
  have h1 := allB_get h.2.2 i hi
  have e1 : eat es i = es[i] := by simp [eat, hi]
  rw [e1] at h1
  unfold fieldsB at h1
  rw [Bool.and_eq_true] at h1
  intro j hj
  have h2 := allB_get h1.1 j hj
  rw [Bool.and_eq_true] at h2
  exact h2.1
theorem said_find (fs : List Fld) (x : Int) : saidB fs x = (fndV fs x).isSome := by
  by_cases h : ∃ k, k < fs.length ∧ (fat fs k).what = x
  · obtain ⟨k, hk, he⟩ := h
    rw [saidB_true hk he]
    cases hf : fndV fs x with
    | some f => rfl
    | none =>
      exfalso
      unfold fndV at hf
      rw [List.find?_eq_none] at hf
      have := hf (fat fs k) (List.mem_of_getElem? (fat_get hk))
      simp [he] at this
  · rw [saidB_false fun j hj e => h ⟨j, hj, e⟩, fndV_no fun j hj e => h ⟨j, hj, e⟩]
    rfl
theorem closed_find (fs : List Fld) : closedB fs = decide (valV fs 5 = closedS) := by
  unfold closedB valV fndV
  cases fs.find? (fun f => decide (f.what = 5)) with
  | some f => rfl
  | none => symm; exact decide_eq_false (by intro h; have := congrArg ByteArray.size h; revert this; decide)
end Go.Proofs.YtfjblenkcfdbiaaGreatDoor.Sd

namespace Go.Proofs.YtfjblenkcfdbiaaGreatDoor.Sd
open Go.RowKit Go.Proofs.YtfjblenkcfdbiaaGreatDoor

set_option maxHeartbeats 1600000 in
theorem l2Cut_new (s : ByteArray) (w : World) (hs : s.size ≤ 1048576) :
    Calls Tryz.prog 68 #[.string s, .int .u8 32] w fun e w' => ∃ v, e = .returned v ∧ SNew w' w.heap.size v (cutW s) ∧ Below w.heap.size w w' := by
  obtain ⟨i0, hi, hz0, hz1, hz2⟩ := info_parts infoStr
  go_enter Tryz.func68, Tryz.ntmps68
  go_wp2
  go_loopw [5, 6, 7] (fun o f i wr => ∃ (k fr : Nat) (P : List ByteArray), fr ≤ k ∧ k ≤ s.size ∧ i = .int .i64 k ∧ f = .int .i64 fr ∧ P.length ≤ k ∧ wr.ownsRow w.heap.size 9 1 o P.length (P.map Value.string) ∧ Below w.heap.size w wr ∧ Hid (CutInv s fr k P)) (fun _ _ i _ => s.size - (intOf i).toNat)
  case atStart => exact ⟨0, 0, [], Nat.le_refl _, Nat.zero_le _, rfl, rfl, Nat.le_refl _, World.ownsRow_made w #[] 0 (Nat.le_refl _) (Nat.zero_le _) rfl, (Below.refl _ _).alloc (Nat.le_refl _) _, CutInv.start s⟩
  case round =>
    obtain ⟨k, fr, P, hfk, hk, rfl, rfl, hpl, hown, hb, HI⟩ := hrel
    by_cases hlt : k < s.size
    · by_cases hc : s[k] = 32
      · have h1 : (((s[k].toNat : Nat) : Int) == 32) = true := by rw [u8_space]; simpa using hc
        have HC : Hid (s[k] = 32) := hc
        clear hc
        go_wp2_with (at_builtin; refine wpList_append_own _ rfl _ _ 43 rfl w.heap.size 9 i0 (.string ByteArray.empty) 1 16 Tryz.underlying43 hi hz0 hz1 hz2 rfl (by decide) _ _ _ rfl (hown.alloc _) ⟨wr.heap.size, 0, none⟩ 1 1 [.string (s.extract fr k)] rfl rfl (cell_one_new _ _ _) (fun x hx => by simp at hx; subst hx; rfl) (by unfold maxLen; omega) (by omega) (by have := hb.size; simp; omega) ?_; intro v' w3 hown' hgrow3 hnil3)
        refine ⟨⟨k + 1, k + 1, P ++ [s.extract fr k], Nat.le_refl _, by omega, by go_num, by go_num, by simp; omega, ?_, (hb.alloc hb.size _).grown hgrow3 (by have := hb.size; simp; omega) (own_ge hown), HI.out.space hlt HC.out⟩, by simp [intOf]; omega⟩
        simpa using hown'
      · have h1 : (((s[k].toNat : Nat) : Int) == 32) = false := by rw [u8_space]; simpa using hc
        have HC : Hid (¬ s[k] = 32) := hc
        clear hc
        go_wp2
        exact ⟨⟨k + 1, fr, P, by omega, by omega, by go_num, rfl, by omega, hown, hb, HI.out.other hfk hlt HC.out⟩, by simp [intOf]; omega⟩
    · have HK : Hid (k = s.size) := by show k = s.size; omega
      go_wp2_with (at_builtin; refine wpList_append_own _ rfl _ _ 43 rfl w.heap.size 9 i0 (.string ByteArray.empty) 1 16 Tryz.underlying43 hi hz0 hz1 hz2 rfl (by decide) _ _ _ rfl (hown.alloc _) ⟨wr.heap.size, 0, none⟩ 1 1 [.string (s.extract fr s.size)] rfl rfl (cell_one_new _ _ _) (fun x hx => by simp at hx; subst hx; rfl) (by unfold maxLen; omega) (by omega) (by have := hb.size; simp; omega) ?_; intro v' w3 hown' hgrow3 hnil3)
      go_ret
      have HW : Hid ((P ++ [s.extract fr s.size]).map bytes = cutA [] (bytes s)) := by
        have := HI.out
        rw [HK.out] at this
        exact this.fin
      refine ⟨v', rfl, cutW_eq HW.out ▸ SNew.snoc rfl (by simpa using hown'), (hb.alloc hb.size _).grown hgrow3 (by have := hb.size; simp; omega) (own_ge hown)⟩
end Go.Proofs.YtfjblenkcfdbiaaGreatDoor.Sd
