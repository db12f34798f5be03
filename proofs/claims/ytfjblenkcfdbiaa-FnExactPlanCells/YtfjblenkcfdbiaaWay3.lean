
/-
  A leg, and what it tells.
-/
import Derived.Test.YtfjblenkcfdbiaaWay2
namespace Go.Proofs.Ytfjblenkcfdbiaa
open Go.RowKit
set_option linter.unusedSimpArgs false
set_option linter.unusedVariables false

/-- A leg in memory, g cells told. -/
structure LegSt (w : World) (G S F T : Nat) (a b : Cel) (g : Int) : Prop where
  ne : G ≠ S
  g : w.heap[G]? = some (.cells #[.int .i64 g] 3 (0, 0))
  s : w.heap[S]? = some (.cells #[.int .i64 (legN a b)] 3 (0, 0))
  f : w.heap[F]? = some (.cells #[.int .i64 a.x, .int .i64 a.y] 97 (0, 0))
  t : w.heap[T]? = some (.cells #[.int .i64 b.x, .int .i64 b.y] 97 (0, 0))
theorem cell_two {w : World} {b : Nat} {v u : Value} {t : TypeId} (h : w.heap[b]? = some (.cells #[v, u] t (0, 0))) : w.cell? ⟨b, 0, none⟩ = some v ∧ w.cell? ⟨b, 1, none⟩ = some u := by simp [World.cell?, h]
theorem below_block {w w' : World} {b : Nat} {o : Obj} (hb : Below w.heap.size w w') (h : w.heap[b]? = some o) : w'.heap[b]? = some o := (hb.block b (lt_of_block h)).trans h
theorem LegSt.keep {w w' : World} {G S F T : Nat} {a b : Cel} {g : Int} (h : LegSt w G S F T a b g) (hb : Below w.heap.size w w') : LegSt w' G S F T a b g :=
  ⟨h.ne, below_block hb h.g, below_block hb h.s, below_block hb h.f, below_block hb h.t⟩

set_option maxRecDepth 100000 in
set_option maxHeartbeats 3200000 in
theorem leg_any (a b : Cel) (w : World) (ha : a.In) (hb : b.In) :
    Calls Try.prog 98 #[cv a, cv b] w fun e w' => ∃ G S F T, e = .returned (.func (.func 107) #[] #[.pointer (some ⟨G, 0, none⟩), .pointer (some ⟨S, 0, none⟩), .pointer (some ⟨F, 0, none⟩), .pointer (some ⟨T, 0, none⟩)]) ∧ LegSt w' G S F T a b 0 ∧ (w.heap.size ≤ G ∧ w.heap.size ≤ S ∧ w.heap.size ≤ F ∧ w.heap.size ≤ T) ∧ Below w.heap.size w w' := by
  have HB : Hid (Below w.heap.size w ((w.alloc (.cells #[.int .i64 a.x, .int .i64 a.y] 97)).alloc (.cells #[.int .i64 b.x, .int .i64 b.y] 97))) := ((Below.refl _ _).alloc (Nat.le_refl _) _).alloc (by simp) _
  have HF : Hid (((w.alloc (.cells #[.int .i64 a.x, .int .i64 a.y] 97)).alloc (.cells #[.int .i64 b.x, .int .i64 b.y] 97)).heap[w.heap.size]? = some (.cells #[.int .i64 a.x, .int .i64 a.y] 97 (0, 0))) :=
    below_block ((Below.refl _ _).alloc (Nat.le_refl _) _) (heap_newW w (.cells #[.int .i64 a.x, .int .i64 a.y] 97))
  have HT : Hid (((w.alloc (.cells #[.int .i64 a.x, .int .i64 a.y] 97)).alloc (.cells #[.int .i64 b.x, .int .i64 b.y] 97)).heap[w.heap.size + 1]? = some (.cells #[.int .i64 b.x, .int .i64 b.y] 97 (0, 0))) := by
    have h := heap_newW (w.alloc (.cells #[.int .i64 a.x, .int .i64 a.y] 97)) (.cells #[.int .i64 b.x, .int .i64 b.y] 97)
    rw [show (w.alloc (.cells #[.int .i64 a.x, .int .i64 a.y] 97)).heap.size = w.heap.size + 1 by simp] at h
    exact h
  go_enter Try.func98, Try.ntmps98
  go_wp2_with fail
  generalize ((w.alloc (.cells #[.int .i64 a.x, .int .i64 a.y] 97)).alloc (.cells #[.int .i64 b.x, .int .i64 b.y] 97)) = w1 at *
  refine (stepsBetween_any a b _ ha hb).mono ?_
  rintro e w2 ⟨rfl, hb2⟩
  have HB2 : Hid (Below w.heap.size w w2) := below_step HB.out hb2
  have HF2 : Hid (w2.heap[w.heap.size]? = some (.cells #[.int .i64 a.x, .int .i64 a.y] 97 (0, 0))) := below_block hb2 HF.out
  have HT2 : Hid (w2.heap[w.heap.size + 1]? = some (.cells #[.int .i64 b.x, .int .i64 b.y] 97 (0, 0))) := below_block hb2 HT.out
  clear hb2
  have hmf : ∀ (fn : Fn) (first cap : Array Value) (w : World), (Instr.makeFunc fn first cap).run Try.prog w = .ok (.func fn first cap) w := fun _ _ _ _ => rfl
  go_wp2_with fail
  have hs := HB2.out.size
  have hlt := lt_of_block HT2.out
  have hal : Below w2.heap.size w2 ((w2.alloc (.cells #[.int .i64 (legN a b)] 3)).alloc (.cells #[.int .i64 0] 3)) := ((Below.refl _ _).alloc (Nat.le_refl _) _).alloc (by simp) _
  have hS : ((w2.alloc (.cells #[.int .i64 (legN a b)] 3)).alloc (.cells #[.int .i64 0] 3)).heap[w2.heap.size]? = some (.cells #[.int .i64 (legN a b)] 3 (0, 0)) :=
    below_block ((Below.refl _ _).alloc (Nat.le_refl _) _) (heap_newW w2 (.cells #[.int .i64 (legN a b)] 3))
  have hG : ((w2.alloc (.cells #[.int .i64 (legN a b)] 3)).alloc (.cells #[.int .i64 0] 3)).heap[w2.heap.size + 1]? = some (.cells #[.int .i64 0] 3 (0, 0)) := by
    have h := heap_newW (w2.alloc (.cells #[.int .i64 (legN a b)] 3)) (.cells #[.int .i64 0] 3)
    rw [show (w2.alloc (.cells #[.int .i64 (legN a b)] 3)).heap.size = w2.heap.size + 1 by simp] at h
    exact h
  go_ret
  exact ⟨w2.heap.size + 1, w2.heap.size, w.heap.size, w.heap.size + 1, rfl, ⟨by omega, hG, hS, below_block hal HF2.out, below_block hal HT2.out⟩, ⟨by omega, by omega, Nat.le_refl _, by omega⟩, below_step HB2.out hal⟩

theorem grown_below_t {w w1 w2 : World} {r : Option Nat} (h : w.grownBy w1 r) (hb : Below w1.heap.size w1 w2) : w.grownBy w2 r :=
  ⟨hb.1.trans h.1, hb.2.trans h.2, hb.3.trans h.3, Nat.le_trans h.4 hb.4, fun j hj hr => (hb.5 j (Nat.lt_of_lt_of_le hj h.4)).trans (h.5 j hj hr)⟩
theorem grown_row_t {w w1 : World} {r : Option Nat} {X : Nat} (h : w.grownBy w1 r) (hX : w.heap.size ≤ X) (cs : Array Value) : w.grownBy (w1.setRow X cs) r :=
  ⟨h.1, h.2, h.3, by simpa using h.4, fun j hj hr => (setRow_other _ _ _ _ (by omega)).trans (h.5 j hj hr)⟩
theorem LegSt.row {w : World} {G S F T X : Nat} {a b : Cel} {g : Int} (h : LegSt w G S F T a b g) (h1 : G ≠ X) (h2 : S ≠ X) (h3 : F ≠ X) (h4 : T ≠ X) (cs : Array Value) : LegSt (w.setRow X cs) G S F T a b g :=
  ⟨h.ne, (setRow_other _ _ _ _ h1).trans h.g, (setRow_other _ _ _ _ h2).trans h.s, (setRow_other _ _ _ _ h3).trans h.f, (setRow_other _ _ _ _ h4).trans h.t⟩
-- Behind the last cell it tells false.
set_option maxRecDepth 100000 in
set_option maxHeartbeats 3200000 in
theorem next_done (a b : Cel) (g : Int) (G S F T : Nat) (w : World) (hL : LegSt w G S F T a b g) (hg : legN a b ≤ g) :
    Calls Try.prog 107 #[.pointer (some ⟨G, 0, none⟩), .pointer (some ⟨S, 0, none⟩), .pointer (some ⟨F, 0, none⟩), .pointer (some ⟨T, 0, none⟩)] w fun e w' => e = .returned (.tuple #[.agg #[.int .i64 0, .int .i64 0], .bool false]) ∧ Below w.heap.size w w' := by
  have HB : Hid (Below w.heap.size w (w.alloc (.cells #[.int .i64 0, .int .i64 0] 97))) := (Below.refl _ _).alloc (Nat.le_refl _) _
  have hr : (w.alloc (.cells #[.int .i64 0, .int .i64 0] 97)).heap[w.heap.size]? = some (.cells #[.int .i64 0, .int .i64 0] 97 (0, 0)) := heap_newW w _
  have c0 := cell_of_one (hL.keep HB.out).g
  have c1 := cell_of_one (hL.keep HB.out).s
  clear hL
  generalize legN a b = n at *
  go_enter Try.func107, Try.ntmps107
  go_wp2_with (refine wpList_store_row rfl 97 _ _ rfl w.heap.size #[.int .i64 0, .int .i64 0] rfl rfl 97 _ hr (by kernel_rfl) rfl (by simp [Value.oneCell']) ?_)
  exact bodyPost_ret (v := .tuple #[.agg #[.int .i64 0, .int .i64 0], .bool false]) (by simp [results, Try.results107, go_sem, cell_setRow_same _ _ _ _ _ _ _ hr]) rfl ⟨rfl, below_setRow HB.out (Nat.le_refl _) _⟩

theorem celI_yes {a b : Cel} {g : Nat} (h : lesser a b = true) : celI a b g = ⟨partW a.x b.x ((g : Int) + 1) (legN a b), partW a.y b.y ((g : Int) + 1) (legN a b)⟩ := by unfold celI; rw [h]; rfl
theorem celI_no {a b : Cel} {g : Nat} (h : lesser a b = false) : celI a b g = ⟨partW b.x a.x (legN a b - ((g : Int) + 1)) (legN a b), partW b.y a.y (legN a b - ((g : Int) + 1)) (legN a b)⟩ := by unfold celI; rw [h]; show celW b a _ = _; unfold celW; rw [legN_comm b a]
-- Ahead of it it tells the next cell, and true.
set_option maxRecDepth 100000 in
set_option maxHeartbeats 3200000 in
theorem next_more (a b : Cel) (g : Nat) (G S F T : Nat) (w : World) (hL : LegSt w G S F T a b g) (hg : (g : Int) < legN a b) (ha : a.In) (hb : b.In) :
    Calls Try.prog 107 #[.pointer (some ⟨G, 0, none⟩), .pointer (some ⟨S, 0, none⟩), .pointer (some ⟨F, 0, none⟩), .pointer (some ⟨T, 0, none⟩)] w fun e w' => e = .returned (.tuple #[cv (celI a b g), .bool true]) ∧ LegSt w' G S F T a b ((g : Int) + 1) ∧ w.grownBy w' (some G) := by
  have hle := legN_le ha hb
  have hK := hL.keep ((Below.refl _ _).alloc (Nat.le_refl _) (.cells #[.int .i64 0, .int .i64 0] 97) : Below w.heap.size w (w.alloc (.cells #[.int .i64 0, .int .i64 0] 97)))
  have HGl : Hid (G < w.heap.size) := lt_of_block hL.g
  have HNX : Hid (G ≠ w.heap.size ∧ S ≠ w.heap.size ∧ F ≠ w.heap.size ∧ T ≠ w.heap.size) := ⟨Nat.ne_of_lt (lt_of_block hL.g), Nat.ne_of_lt (lt_of_block hL.s), Nat.ne_of_lt (lt_of_block hL.f), Nat.ne_of_lt (lt_of_block hL.t)⟩
  have hGS := hL.ne
  have hr : (w.alloc (.cells #[.int .i64 0, .int .i64 0] 97)).heap[w.heap.size]? = some (.cells #[.int .i64 0, .int .i64 0] 97 (0, 0)) := heap_newW w _
  have c0 := cell_of_one hK.g
  have z0 := free_of_one hK.g
  have c1 := cell_of_one hK.s
  have LS : Hid (LegSt ((w.alloc (.cells #[.int .i64 0, .int .i64 0] 97)).setCell ⟨G, 0, none⟩ (.int .i64 ((g : Int) + 1))) G S F T a b ((g : Int) + 1)) := by
    refine ⟨hGS, one_setCell hK.g, ?_, ?_, ?_⟩
    · exact (Below.heap_setCell _ ⟨G, 0, none⟩ _ S (by simp; exact fun e => hGS e.symm)).trans hK.s
    · exact (Below.heap_setCell _ ⟨G, 0, none⟩ _ F (by rintro rfl; have h1 := hK.g; rw [hK.f] at h1; simp at h1)).trans hK.f
    · exact (Below.heap_setCell _ ⟨G, 0, none⟩ _ T (by rintro rfl; have h1 := hK.g; rw [hK.t] at h1; simp at h1)).trans hK.t
  have RS : Hid (((w.alloc (.cells #[.int .i64 0, .int .i64 0] 97)).setCell ⟨G, 0, none⟩ (.int .i64 ((g : Int) + 1))).heap[w.heap.size]? = some (.cells #[.int .i64 0, .int .i64 0] 97 (0, 0))) :=
    (Below.heap_setCell _ ⟨G, 0, none⟩ _ w.heap.size (by have := HGl.out; simp; omega)).trans hr
  have GS : Hid (w.grownBy ((w.alloc (.cells #[.int .i64 0, .int .i64 0] 97)).setCell ⟨G, 0, none⟩ (.int .i64 ((g : Int) + 1))) (some G)) := by
    have hb1 : Below w.heap.size w (w.alloc (.cells #[.int .i64 0, .int .i64 0] 97)) := (Below.refl _ _).alloc (Nat.le_refl _) _
    refine ⟨hb1.1, hb1.2, hb1.3, by simp, fun j hj hr => ?_⟩
    exact (Below.heap_setCell _ ⟨G, 0, none⟩ _ j (fun e => hr (by rw [e]))).trans (hb1.5 j hj)
  have HLS : Hid (∀ wx : World, Calls Try.prog 108 #[cv a, cv b] wx fun e w' => e = .returned (.bool (lesser a b)) ∧ Below wx.heap.size wx w') := fun wx => lesser_any a b wx
  have HCY : Hid (∀ wx : World, Calls Try.prog 109 #[cv a, cv b, .int .i64 ((g : Int) + 1), .int .i64 (legN a b)] wx fun e w' => e = .returned (.agg #[.int .i64 (partW a.x b.x ((g : Int) + 1) (legN a b)), .int .i64 (partW a.y b.y ((g : Int) + 1) (legN a b))]) ∧ Below wx.heap.size wx w') := fun wx => cellBehind_any a b _ _ wx ha hb (by omega) (by omega) (by omega) hle
  have HCN : Hid (∀ wx : World, Calls Try.prog 109 #[cv b, cv a, .int .i64 (legN a b - ((g : Int) + 1)), .int .i64 (legN a b)] wx fun e w' => e = .returned (.agg #[.int .i64 (partW b.x a.x (legN a b - ((g : Int) + 1)) (legN a b)), .int .i64 (partW b.y a.y (legN a b - ((g : Int) + 1)) (legN a b))]) ∧ Below wx.heap.size wx w') := fun wx => cellBehind_any b a _ _ wx hb ha (by omega) (by omega) (by omega) hle
  have f0 := cell_two LS.out.f
  have t0 := cell_two LS.out.t
  obtain ⟨f0, f1⟩ := f0
  obtain ⟨t0, t1⟩ := t0
  clear hK hL
  cases hl : lesser a b
  · have HE : Hid (celI a b g = _) := celI_no hl
    rw [hl] at HLS
    clear hl HCY
    generalize partW b.x a.x (legN a b - ((g : Int) + 1)) (legN a b) = px at *
    generalize partW b.y a.y (legN a b - ((g : Int) + 1)) (legN a b) = py at *
    go_enter Try.func107, Try.ntmps107
    go_wp2_with fail
    generalize ((w.alloc (.cells #[.int .i64 0, .int .i64 0] 97)).setCell ⟨G, 0, none⟩ (.int .i64 ((g : Int) + 1))) = w1 at *
    refine (HLS.out w1).mono ?_
    rintro e w2 ⟨rfl, hb2⟩
    have L2 : Hid (LegSt w2 G S F T a b ((g : Int) + 1)) := LS.out.keep hb2
    have R2 : Hid (w2.heap[w.heap.size]? = some (.cells #[.int .i64 0, .int .i64 0] 97 (0, 0))) := below_block hb2 RS.out
    have G2 : Hid (w.grownBy w2 (some G)) := grown_below_t GS.out hb2
    clear f0 f1 t0 t1 LS RS GS hb2 HLS c0 z0 c1 hr
    obtain ⟨f0, f1⟩ := cell_two L2.out.f
    obtain ⟨t0, t1⟩ := cell_two L2.out.t
    have c0 := cell_of_one L2.out.g
    have c1 := cell_of_one L2.out.s
    go_wp2_with fail
    refine (HCN.out _).mono ?_
    rintro e w3 ⟨rfl, hb3⟩
    have L3 : Hid (LegSt w3 G S F T a b ((g : Int) + 1)) := L2.out.keep hb3
    have hr3 := below_block hb3 R2.out
    have G3 : Hid (w.grownBy w3 (some G)) := grown_below_t G2.out hb3
    clear f0 f1 t0 t1 L2 R2 G2 hb3 c0 c1
    go_wp2_with (refine wpList_store_row rfl 97 _ _ rfl w.heap.size #[.int .i64 px, .int .i64 py] rfl rfl 97 _ hr3 (by kernel_rfl) rfl (by simp [Value.oneCell']) ?_)
    exact bodyPost_ret (v := .tuple #[.agg #[.int .i64 px, .int .i64 py], .bool true]) (by simp [results, Try.results107, go_sem, cell_setRow_same _ _ _ _ _ _ _ hr3]) rfl ⟨by rw [HE.out], L3.out.row HNX.out.1 HNX.out.2.1 HNX.out.2.2.1 HNX.out.2.2.2 _, grown_row_t G3.out (Nat.le_refl _) _⟩
  · have HE : Hid (celI a b g = _) := celI_yes hl
    rw [hl] at HLS
    clear hl HCN
    generalize partW a.x b.x ((g : Int) + 1) (legN a b) = px at *
    generalize partW a.y b.y ((g : Int) + 1) (legN a b) = py at *
    go_enter Try.func107, Try.ntmps107
    go_wp2_with fail
    generalize ((w.alloc (.cells #[.int .i64 0, .int .i64 0] 97)).setCell ⟨G, 0, none⟩ (.int .i64 ((g : Int) + 1))) = w1 at *
    refine (HLS.out w1).mono ?_
    rintro e w2 ⟨rfl, hb2⟩
    have L2 : Hid (LegSt w2 G S F T a b ((g : Int) + 1)) := LS.out.keep hb2
    have R2 : Hid (w2.heap[w.heap.size]? = some (.cells #[.int .i64 0, .int .i64 0] 97 (0, 0))) := below_block hb2 RS.out
    have G2 : Hid (w.grownBy w2 (some G)) := grown_below_t GS.out hb2
    clear f0 f1 t0 t1 LS RS GS hb2 HLS c0 z0 c1 hr
    obtain ⟨f0, f1⟩ := cell_two L2.out.f
    obtain ⟨t0, t1⟩ := cell_two L2.out.t
    have c0 := cell_of_one L2.out.g
    have c1 := cell_of_one L2.out.s
    go_wp2_with fail
    refine (HCY.out _).mono ?_
    rintro e w3 ⟨rfl, hb3⟩
    have L3 : Hid (LegSt w3 G S F T a b ((g : Int) + 1)) := L2.out.keep hb3
    have hr3 := below_block hb3 R2.out
    have G3 : Hid (w.grownBy w3 (some G)) := grown_below_t G2.out hb3
    clear f0 f1 t0 t1 L2 R2 G2 hb3 c0 c1
    go_wp2_with (refine wpList_store_row rfl 97 _ _ rfl w.heap.size #[.int .i64 px, .int .i64 py] rfl rfl 97 _ hr3 (by kernel_rfl) rfl (by simp [Value.oneCell']) ?_)
    exact bodyPost_ret (v := .tuple #[.agg #[.int .i64 px, .int .i64 py], .bool true]) (by simp [results, Try.results107, go_sem, cell_setRow_same _ _ _ _ _ _ _ hr3]) rfl ⟨by rw [HE.out], L3.out.row HNX.out.1 HNX.out.2.1 HNX.out.2.2.1 HNX.out.2.2.2 _, grown_row_t G3.out (Nat.le_refl _) _⟩
end Go.Proofs.Ytfjblenkcfdbiaa
