
/-
  The cells along turns: the program's.
-/
import Derived.Test.YtfjblenkcfdbiaaWay4
namespace Go.Proofs.Ytfjblenkcfdbiaa
open Go.RowKit
set_option linter.unusedSimpArgs false
set_option linter.unusedVariables false

def tat (ts : List Cel) (i : Nat) : Cel := ts.getD i ⟨0, 0⟩
theorem tat_get {ts : List Cel} {i : Nat} (h : i < ts.length) : ts[i]? = some (tat ts i) := by simp [tat, h]
theorem tat_in {ts : List Cel} {i : Nat} (h : i < ts.length) (ha : ∀ c ∈ ts, c.In) : (tat ts i).In := ha _ (List.mem_of_getElem? (tat_get h))
theorem legI_le {a b : Cel} (ha : a.In) (hb : b.In) : (legI a b).length ≤ 15 := by
  rw [legI_len]; have := legN_le ha hb; omega
theorem alongTo_len {ts : List Cel} (ha : ∀ c ∈ ts, c.In) : ∀ k, k ≤ ts.length → (alongTo (tat ts) k).length ≤ 1 + 15 * k
  | 0, _ => by simp [alongTo]
  | 1, _ => by simp [alongTo]
  | k + 2, h => by
    have h1 := alongTo_len ha (k + 1) (by omega)
    have h2 := legI_le (tat_in (ts := ts) (i := k) (by omega) ha) (tat_in (ts := ts) (i := k + 1) (by omega) ha)
    rw [alongTo, List.length_append]
    omega
theorem legI_get (a b : Cel) (g : Nat) (h : (g : Int) < legN a b) : (legI a b).take (g + 1) = (legI a b).take g ++ [celI a b g] := by
  have hl : g < (legI a b).length := by rw [legI_len]; omega
  rw [List.take_succ_eq_append_getElem hl]
  congr 2
  simp [legI]
theorem CAt.cells {w : World} {g n cap : Nat} {ts : List Cel} (h : CAt w (.slice (some ⟨g, 0, none⟩) n cap) ts) (i : Nat) (hi : i < ts.length) : w.cell? ⟨g, i * 2, none⟩ = some (.int .i64 (tat ts i).x) ∧ w.cell? ⟨g, i * 2 + 1, none⟩ = some (.int .i64 (tat ts i).y) := by
  obtain ⟨a, cap', e, _, _, hc⟩ := h
  cases e
  obtain ⟨g', he, h1⟩ := hc i _ (tat_get hi)
  cases he
  exact h1

def NNat (a b : Cel) : Nat := (legN a b).toNat
theorem NNat_cast (a b : Cel) : ((NNat a b : Nat) : Int) = legN a b := by have := legN_nonneg a b; unfold NNat; omega
def celT (a b : Cel) (g : Nat) : Cel := if g < NNat a b then celI a b g else ⟨0, 0⟩
theorem LegSt.far {w w' : World} {G S F T : Nat} {a b : Cel} {g : Int} {r : Option Nat} (h : LegSt w G S F T a b g) (hg : w.grownBy w' r) (h1 : some G ≠ r) (h2 : some S ≠ r) (h3 : some F ≠ r) (h4 : some T ≠ r) : LegSt w' G S F T a b g :=
  ⟨h.ne, (hg.block _ (lt_of_block h.g) h1).trans h.g, (hg.block _ (lt_of_block h.s) h2).trans h.s, (hg.block _ (lt_of_block h.f) h3).trans h.f, (hg.block _ (lt_of_block h.t) h4).trans h.t⟩
theorem next_any (a b : Cel) (g : Nat) (G S F T : Nat) (w : World) (hL : LegSt w G S F T a b g) (hg : g ≤ NNat a b) (ha : a.In) (hb : b.In) :
    Calls Try.prog 107 #[.pointer (some ⟨G, 0, none⟩), .pointer (some ⟨S, 0, none⟩), .pointer (some ⟨F, 0, none⟩), .pointer (some ⟨T, 0, none⟩)] w fun e w' => e = .returned (.tuple #[cv (celT a b g), .bool (decide (g < NNat a b))]) ∧ LegSt w' G S F T a b ((min (g + 1) (NNat a b) : Nat) : Int) ∧ w.grownBy w' (some G) := by
  have hc := NNat_cast a b
  by_cases h : g < NNat a b
  · refine (next_more a b g G S F T w hL (by omega) ha hb).mono ?_
    rintro e w' ⟨rfl, h1, h2⟩
    refine ⟨by rw [decide_eq_true h, celT, if_pos h], ?_, h2⟩
    rw [show ((min (g + 1) (NNat a b) : Nat) : Int) = (g : Int) + 1 by omega]
    exact h1
  · refine (next_done a b g G S F T w hL (by omega)).mono ?_
    rintro e w' ⟨rfl, h1⟩
    refine ⟨by rw [decide_eq_false h, celT, if_neg h], ?_, ⟨h1.1, h1.2, h1.3, h1.4, fun k hk _ => h1.5 k hk⟩⟩
    rw [show ((min (g + 1) (NNat a b) : Nat) : Int) = (g : Int) by omega]
    exact hL.keep h1
theorem grown_rowW (w : World) (g : Nat) (cs : Array Value) : w.grownBy (w.setRow g cs) (some g) := ⟨rfl, rfl, rfl, by simp, fun k _ hk => setRow_other _ _ _ _ (fun e => hk (by rw [e]))⟩
def sl : Value → Nat
  | .slice _ n _ => n
  | _ => 0
theorem own_type {w : World} {base : Nat} {e : TypeId} {size : Nat} {v : Value} {n : Nat} {xs : List Value} {B : Nat} {C : Array Value} {t : TypeId} (h : w.ownsRow base e size v n xs) (hB : w.heap[B]? = some (.cells C t (0, 0))) (hne : e ≠ t) : some B ≠ v.ownBlock := by
  rcases h.2 with ⟨rfl, _⟩ | ⟨g, cap, cur, rfl, hg, hc, _⟩
  · intro e; cases e
  · intro e
    simp only [Value.ownBlock, Option.some.injEq] at e
    subst e
    rw [hc] at hB
    simp at hB
    exact hne hB.2
theorem alongTo_step (t : Nat → Cel) (k : Nat) (h : 0 < k) : alongTo t (k + 1) = alongTo t k ++ legI (t (k - 1)) (t k) := by
  obtain ⟨K, rfl⟩ : ∃ K, k = K + 1 := ⟨k - 1, by omega⟩
  rfl
set_option maxRecDepth 100000 in
set_option maxHeartbeats 12800000 in
theorem cellsAlong_any (v : Value) (ts : List Cel) (w : World) (hv : CAt w v ts) (hn8 : ts.length ≤ 8) (hin : ∀ c ∈ ts, c.In) :
    Calls Try.prog 62 #[v] w fun e w' => ∃ u, e = .returned u ∧ CNew w' w.heap.size u (alongTo (tat ts) ts.length) ∧ Below w.heap.size w w' := by
  obtain ⟨i0, hi0, hz0, hz1, hz2⟩ := info_parts infoCell
  have HV : Hid (CAt w v ts) := hv
  have HIN : Hid (∀ c ∈ ts, c.In) := hin
  obtain ⟨av, cap, rfl, hlc, hcm, hc⟩ := hv
  unfold maxLen at hcm
  have HC : Hid (∀ i, i < ts.length → ∃ g, av = some ⟨g, 0, none⟩) := fun i hi => by
    obtain ⟨g, hg, _⟩ := hc i _ (tat_get hi)
    exact ⟨g, hg⟩
  clear hc hin
  go_enter Try.func62, Try.ntmps62
  go_wp2
  go_loopw [3, 11] (fun v i wr => ∃ k : Nat, k ≤ ts.length ∧ i = .int .i64 k ∧ (∃ a c, v = .slice a (alongTo (tat ts) k).length c) ∧ Hid (CNew wr w.heap.size v (alongTo (tat ts) k) ∧ Below w.heap.size w wr)) (fun _ i _ => ts.length - (intOf i).toNat)
  case atStart => exact ⟨0, Nat.zero_le _, rfl, ⟨_, _, rfl⟩, ⟨rfl, .inl ⟨rfl, rfl⟩⟩, Below.refl _ _⟩
  case round =>
    obtain ⟨k, hk, rfl, ⟨a, c, rfl⟩, HI⟩ := hrel
    by_cases hlt : k < ts.length
    · obtain ⟨bV, rfl⟩ := HC.out k hlt
      have hk0 : (0 : Int) ≤ (k : Int) := by omega
      have hk1 : (k : Int) < (ts.length : Int) := by omega
      have hal := alongTo_len HIN.out k hk
      obtain ⟨d0, d1⟩ := (HV.out.keep HI.out.2).cells k hlt
      have HB1 : Hid (Below wr.heap.size wr (wr.alloc (.cells #[.int .i64 (tat ts k).x, .int .i64 (tat ts k).y] 97))) := (Below.refl _ _).alloc (Nat.le_refl _) _
      have X5 : Hid ((wr.alloc (.cells #[.int .i64 (tat ts k).x, .int .i64 (tat ts k).y] 97)).heap[wr.heap.size]? = some (.cells #[.int .i64 (tat ts k).x, .int .i64 (tat ts k).y] 97 (0, 0))) := heap_newW wr _
      obtain ⟨x0, x1⟩ := cell_two X5.out
      by_cases hz : k = 0
      · subst hz
        have hid : (wr.alloc (.cells #[.int .i64 (tat ts 0).x, .int .i64 (tat ts 0).y] 97)).ownsRow w.heap.size 97 2 (.slice a 0 c) 0 [] := ownC_keep HI.out.1 HB1.out
        have hsz := HI.out.2.size
        rw [show (alongTo (tat ts) 0).length = 0 from rfl]
        have hnew : ((wr.alloc (.cells #[.int .i64 (tat ts 0).x, .int .i64 (tat ts 0).y] 97)).alloc (.cells #[.int .i64 (tat ts 0).x, .int .i64 (tat ts 0).y] 97)).heap[wr.heap.size + 1]? = some (.cells #[.int .i64 (tat ts 0).x, .int .i64 (tat ts 0).y] 97 (0, 0)) := by
          have h := heap_newW (wr.alloc (.cells #[.int .i64 (tat ts 0).x, .int .i64 (tat ts 0).y] 97)) (.cells #[.int .i64 (tat ts 0).x, .int .i64 (tat ts 0).y] 97)
          rw [show (wr.alloc (.cells #[.int .i64 (tat ts 0).x, .int .i64 (tat ts 0).y] 97)).heap.size = wr.heap.size + 1 by simp] at h
          exact h
        go_wp2_with (at_builtin; refine wpList_append_any _ rfl _ _ 55 rfl w.heap.size 97 i0 _ 2 16 Try.underlying55 hi0 hz0 hz1 hz2 rfl (by decide) (.slice a 0 c) 0 _ rfl (ownC_keep hid ((Below.refl _ _).alloc (Nat.le_refl _) _)) _ 1 1 [.int .i64 (tat ts 0).x, .int .i64 (tat ts 0).y] rfl (.inr ⟨_, rfl, World.news_of_block hnew⟩) rfl (fun u hu => by simp at hu; rcases hu with rfl | rfl <;> rfl) (by unfold maxLen; omega) (by omega) (by simp; omega) ?_; intro vq wx hown hgrow hat)
        have hbw := below_step (below_step HI.out.2 HB1.out) ((Below.refl _ _).alloc (Nat.le_refl _) (.cells #[.int .i64 (tat ts 0).x, .int .i64 (tat ts 0).y] 97))
        have HN : Hid (CNew wx w.heap.size vq (alongTo (tat ts) (0 + 1)) ∧ Below w.heap.size w wx) := ⟨hown, hbw.grown hgrow hbw.size (fun q hq => ownC_ge hid q hq)⟩
        obtain ⟨qa, qc, rfl⟩ := ownC_slice hown
        exact ⟨⟨0 + 1, by omega, by go_num, ⟨_, _, rfl⟩, HN⟩, by simp [intOf]; omega⟩
      · obtain ⟨e0, e1⟩ := (HV.out.keep HI.out.2).cells (k - 1) (by omega)
        have e0' := cell_keep HB1.out (Nat.le_refl _) e0
        have e1' := cell_keep HB1.out (Nat.le_refl _) e1
        have HE : Hid (alongTo (tat ts) (k + 1) = alongTo (tat ts) k ++ legI (tat ts (k - 1)) (tat ts k)) := alongTo_step _ _ (by omega)
        have hia : (tat ts (k - 1)).In := tat_in (by omega) HIN.out
        have hib : (tat ts k).In := tat_in (by omega) HIN.out
        have I1 : Hid (CNew (wr.alloc (.cells #[.int .i64 (tat ts k).x, .int .i64 (tat ts k).y] 97)) w.heap.size (.slice a (alongTo (tat ts) k).length c) (alongTo (tat ts) k) ∧ Below w.heap.size w (wr.alloc (.cells #[.int .i64 (tat ts k).x, .int .i64 (tat ts k).y] 97))) := ⟨ownC_keep HI.out.1 HB1.out, below_step HI.out.2 HB1.out⟩
        clear HI e0 e1
        have hwr : IntKind.i64.wrap ((k : Int) - 1) = ((k - 1 : Nat) : Int) := by rw [IntKind.wrap_i64]; omega
        have hj0 : (0 : Int) ≤ ((k - 1 : Nat) : Int) := by omega
        have hj1 : ((k - 1 : Nat) : Int) < (ts.length : Int) := by omega
        generalize tat ts k = tb at *
        generalize tat ts (k - 1) = ta at *
        generalize alongTo (tat ts) k = P at *
        have hPl : P.length ≤ 121 := by omega
        go_wp2_with fail
        generalize (wr.alloc (.cells #[.int .i64 tb.x, .int .i64 tb.y] 97)) = w1 at *
        generalize wr.heap.size = B5 at *
        refine wp_region_noPanic ?_
        refine wp_region_held_drew (S := fun w' => (w'.cell? ⟨bV, (k - 1) * 2, none⟩ = some (.int .i64 ta.x) ∧ w'.cell? ⟨bV, (k - 1) * 2 + 1, none⟩ = some (.int .i64 ta.y)) ∧ w'.cell? ⟨B5, 0, none⟩ = some (.int .i64 tb.x) ∧ w'.cell? ⟨B5, 1, none⟩ = some (.int .i64 tb.y)) (by kernel_rfl) ?_ (fun hHeld => ?_)
        · exact ⟨⟨cell_keep (Below.refl _ _).drew (Nat.le_refl _) e0', cell_keep (Below.refl _ _).drew (Nat.le_refl _) e1'⟩, cell_keep (Below.refl _ _).drew (Nat.le_refl _) x0, cell_keep (Below.refl _ _).drew (Nat.le_refl _) x1⟩
        have I2 : Hid (CNew w1.drew w.heap.size (.slice a P.length c) P ∧ Below w.heap.size w w1.drew) := ⟨ownC_keep I1.out.1 (Below.refl _ _).drew, below_step I1.out.2 (Below.refl _ _).drew⟩
        have Q1 : Hid (∀ wx : World, Below w1.drew.heap.size w1.drew wx → (wx.cell? ⟨bV, (k - 1) * 2, none⟩ = some (.int .i64 ta.x) ∧ wx.cell? ⟨bV, (k - 1) * 2 + 1, none⟩ = some (.int .i64 ta.y)) ∧ wx.cell? ⟨B5, 0, none⟩ = some (.int .i64 tb.x) ∧ wx.cell? ⟨B5, 1, none⟩ = some (.int .i64 tb.y)) := fun wx hx => ⟨⟨cell_keep hx (Nat.le_refl _) hHeld.1.1, cell_keep hx (Nat.le_refl _) hHeld.1.2⟩, cell_keep hx (Nat.le_refl _) hHeld.2.1, cell_keep hx (Nat.le_refl _) hHeld.2.2⟩
        clear e0' e1' x0 x1 I1 HB1 X5
        generalize w1.drew = W at *
        refine wpAnyH_take (i := 0) (v := ?_) rfl (by kernel_rfl) (by kernel_rfl) (by kernel_rfl) (fun _ _ _ h => h) (Or.inl ⟨by rfl, ?_⟩) (by assumption) ?_
        rotate_left
        · intro w hSw; (try dsimp only at hSw); go_simp; try with_reducible rfl
        simp only [Act.put, List.setIfInBounds_toArray, List.set_cons_zero, List.set_cons_succ, List.getElem_toArray, List.getElem_cons_succ, List.getElem_cons_zero]
        refine wpAnyH_take (i := 1) (v := ?_) rfl (by kernel_rfl) (by kernel_rfl) (by kernel_rfl) (fun _ _ _ h => h) (Or.inl ⟨by rfl, ?_⟩) (by assumption) ?_
        rotate_left
        · intro w hSw; (try dsimp only at hSw); go_simp; try with_reducible rfl
        simp only [Act.put, List.setIfInBounds_toArray, List.set_cons_zero, List.set_cons_succ, List.getElem_toArray, List.getElem_cons_succ, List.getElem_cons_zero]
        refine wpAnyH_take (i := 2) (v := ?_) rfl (by kernel_rfl) (by kernel_rfl) (by kernel_rfl) (fun _ _ _ h => h) (Or.inl ⟨by rfl, ?_⟩) (by assumption) ?_
        rotate_left
        · intro w hSw; (try dsimp only at hSw); go_simp; try with_reducible rfl
        simp only [Act.put, List.setIfInBounds_toArray, List.set_cons_zero, List.set_cons_succ, List.getElem_toArray, List.getElem_cons_succ, List.getElem_cons_zero]
        refine wpAnyH_take (i := 3) (v := ?_) rfl (by kernel_rfl) (by kernel_rfl) (by kernel_rfl) (fun _ _ _ h => h) (Or.inl ⟨by rfl, ?_⟩) (by assumption) ?_
        rotate_left
        · intro w hSw; (try dsimp only at hSw); go_simp; try with_reducible rfl
        simp only [Act.put, List.setIfInBounds_toArray, List.set_cons_zero, List.set_cons_succ, List.getElem_toArray, List.getElem_cons_succ, List.getElem_cons_zero]
        refine wpAnyH_take (i := 4) (v := ?_) rfl (by kernel_rfl) (by kernel_rfl) (by kernel_rfl) (fun _ _ _ h => h) (Or.inl ⟨by rfl, ?_⟩) (by assumption) ?_
        rotate_left
        · intro w hSw; (try dsimp only at hSw); go_simp; try with_reducible rfl
        simp only [Act.put, List.setIfInBounds_toArray, List.set_cons_zero, List.set_cons_succ, List.getElem_toArray, List.getElem_cons_succ, List.getElem_cons_zero]
        refine wpAnyH_take (i := 5) (v := ?_) rfl (by kernel_rfl) (by kernel_rfl) (by kernel_rfl) (fun _ _ _ h => h) (Or.inl ⟨by rfl, ?_⟩) (by assumption) ?_
        rotate_left
        · intro w hSw; (try dsimp only at hSw); go_simp; try with_reducible rfl
        simp only [Act.put, List.setIfInBounds_toArray, List.set_cons_zero, List.set_cons_succ, List.getElem_toArray, List.getElem_cons_succ, List.getElem_cons_zero]
        refine wpAnyH_ready (rs := [6]) (by kernel_rfl) (by simp) ?_
        refine AllReadyH.cons rfl (fun K hK => ?_) AllReadyH.nil
        go_simp
        refine (leg_any ta tb _ hia hib).mono ?_
        rintro e w2 ⟨G, S, F, T, rfl, hL, ⟨hGl, hSl, hFl, hTl⟩, hb2⟩
        have hHeld2 := Q1.out _ hb2
        refine hK.out _ _ hHeld2 (fun _ => ?_)
        clear hK K hHeld
        have hHeld := hHeld2
        clear hHeld2
        refine wpAnyH_take (i := 7) (v := ?_) rfl (by kernel_rfl) (by kernel_rfl) (by kernel_rfl) (fun _ _ _ h => h) (Or.inl ⟨by rfl, ?_⟩) (by assumption) ?_
        rotate_left
        · intro w hSw; (try dsimp only at hSw); go_simp; try with_reducible rfl
        simp only [Act.put, List.setIfInBounds_toArray, List.set_cons_zero, List.set_cons_succ, List.getElem_toArray, List.getElem_cons_succ, List.getElem_cons_zero]
        clear hHeld
        refine wpAnyH_done (by kernel_rfl) ?_ _
        refine NoPanic.normal ?_
        have hWs := I2.out.2.size
        have I3 : Hid (CNew w2 w.heap.size (.slice a P.length c) P ∧ Below w.heap.size w w2) := ⟨ownC_keep I2.out.1 hb2, below_step I2.out.2 hb2⟩
        have L3 : Hid (LegSt w2 G S F T ta tb ((0 : Nat) : Int)) := hL
        have A3 : Hid (∀ q, (Value.slice a P.length c).ownBlock = some q → q ≠ F ∧ q ≠ T) := fun q hq => by
          have := ownC_lt I2.out.1 q hq
          exact ⟨by omega, by omega⟩
        clear hL hb2 Q1 I2
        have hGw : w.heap.size ≤ G := by omega
        have hFT : Hid (F < w2.heap.size ∧ T < w2.heap.size ∧ G < w2.heap.size ∧ S < w2.heap.size) := ⟨lt_of_block L3.out.f, lt_of_block L3.out.t, lt_of_block L3.out.g, lt_of_block L3.out.s⟩
        clear hGl hSl hFl hTl
        go_wp2_with fail
        refine (next_any ta tb 0 G S F T _ L3.out (Nat.zero_le _) hia hib).mono ?_
        rintro e w3 ⟨rfl, hL3, hg3⟩
        have I4 : Hid (CNew w3 w.heap.size (.slice a P.length c) P ∧ Below w.heap.size w w3) := ⟨ownC_far I3.out.1 hg3 (fun q hq e => own_type I3.out.1 L3.out.g (by decide) (by rw [hq, e])), I3.out.2.grown hg3 I3.out.2.size (fun q e => by injection e; omega)⟩
        have I5 : Hid (CNew (w3.alloc (.cells #[.int .i64 (celT ta tb 0).x, .int .i64 (celT ta tb 0).y] 97)) w.heap.size (.slice a P.length c) P ∧ Below w.heap.size w (w3.alloc (.cells #[.int .i64 (celT ta tb 0).x, .int .i64 (celT ta tb 0).y] 97))) := ⟨ownC_keep I4.out.1 ((Below.refl _ _).alloc (Nat.le_refl _) _), below_step I4.out.2 ((Below.refl _ _).alloc (Nat.le_refl _) _)⟩
        have L5 : Hid (LegSt (w3.alloc (.cells #[.int .i64 (celT ta tb 0).x, .int .i64 (celT ta tb 0).y] 97)) G S F T ta tb ((min (0 + 1) (NNat ta tb) : Nat) : Int)) := hL3.keep ((Below.refl _ _).alloc (Nat.le_refl _) _)
        have X5 : Hid ((w3.alloc (.cells #[.int .i64 (celT ta tb 0).x, .int .i64 (celT ta tb 0).y] 97)).heap[w3.heap.size]? = some (.cells #[.int .i64 (celT ta tb 0).x, .int .i64 (celT ta tb 0).y] 97 (0, 0))) := heap_newW w3 _
        have A5 : Hid ((∀ q, (Value.slice a P.length c).ownBlock = some q → q ≠ F ∧ q ≠ T ∧ q ≠ w3.heap.size) ∧ w3.heap.size ≠ F ∧ w3.heap.size ≠ T ∧ w3.heap.size ≠ G ∧ w3.heap.size ≠ S) := by
          have h1 := lt_of_block hL3.f
          have h2 := lt_of_block hL3.t
          have h3 := lt_of_block hL3.g
          have h4 := lt_of_block hL3.s
          refine ⟨fun q hq => ⟨(A3.out q hq).1, (A3.out q hq).2, ?_⟩, by omega, by omega, by omega, by omega⟩
          have := ownC_lt I4.out.1 q hq
          omega
        clear hL3 hg3 I3 I4 L3 A3 hFT
        have hNN : NNat ta tb ≤ 15 := by have := legN_le hia hib; have := NNat_cast ta tb; omega
        have HLI : Hid (legI ta tb = (legI ta tb).take (NNat ta tb)) := (List.take_of_length_le (by rw [legI_len]; exact Nat.le_refl _)).symm
        have HTK : Hid (∀ g, g < NNat ta tb → (legI ta tb).take (g + 1) = (legI ta tb).take g ++ [celT ta tb g]) := fun g hg => by
          rw [celT, if_pos hg]
          exact legI_get ta tb g (by have := NNat_cast ta tb; omega)
        have HTL : Hid (∀ g, g ≤ NNat ta tb → (P ++ (legI ta tb).take g).length = P.length + g) := fun g hg => by
          rw [List.length_append, List.length_take, legI_len]
          unfold NNat at hg
          omega
        go_wp2_with fail
        generalize (w3.alloc (.cells #[.int .i64 (celT ta tb 0).x, .int .i64 (celT ta tb 0).y] 97)) = w4 at *
        generalize w3.heap.size = X0 at *
        go_loopw [3, 7, 8] (fun v3 v7 v8 wr => ∃ (g X : Nat), g ≤ NNat ta tb ∧ (∃ a c, v3 = .slice a (P.length + g) c) ∧ v7 = .pointer (some ⟨X, 0, none⟩) ∧ v8 = .bool (decide (g < NNat ta tb)) ∧ Hid ((CNew wr w.heap.size v3 (P ++ (legI ta tb).take g) ∧ Below w.heap.size w wr) ∧ LegSt wr G S F T ta tb ((min (g + 1) (NNat ta tb) : Nat) : Int) ∧ wr.heap[X]? = some (.cells #[.int .i64 (celT ta tb g).x, .int .i64 (celT ta tb g).y] 97 (0, 0)) ∧ ((∀ q, v3.ownBlock = some q → q ≠ F ∧ q ≠ T ∧ q ≠ X) ∧ X ≠ F ∧ X ≠ T ∧ X ≠ G ∧ X ≠ S))) (fun v3 _ _ _ => P.length + NNat ta tb - sl v3)
        case atStart => exact ⟨0, X0, Nat.zero_le _, ⟨_, _, rfl⟩, rfl, rfl, ⟨by simpa using I5.out.1, I5.out.2⟩, L5.out, X5.out, A5.out⟩
        case round =>
          clear I5 L5 X5 A5
          obtain ⟨g, X, hg, ⟨a3, c3, rfl⟩, rfl, rfl, HR⟩ := hrel
          by_cases hgl : g < NNat ta tb
          · obtain ⟨y0, y1⟩ := cell_two HR.out.2.2.1
            have hid := HR.out.1.1
            unfold CNew at hid
            rw [HTL.out g hg] at hid
            have hsz := HR.out.1.2.size
            have HAL : Hid (Below wr.heap.size wr (wr.alloc (.cells #[.int .i64 (celT ta tb g).x, .int .i64 (celT ta tb g).y] 97))) := (Below.refl _ _).alloc (Nat.le_refl _) _
            have HXK : Hid (∀ wx : World, (wr.alloc (.cells #[.int .i64 (celT ta tb g).x, .int .i64 (celT ta tb g).y] 97)).grownBy wx (Value.slice a3 (P.length + g) c3).ownBlock → wx.heap[X]? = some (.cells #[.int .i64 (celT ta tb g).x, .int .i64 (celT ta tb g).y] 97 (0, 0))) := fun wx hx => by
              have hX := below_block HAL.out HR.out.2.2.1
              exact (hx.block X (lt_of_block hX) (fun e => (HR.out.2.2.2.1 X e.symm).2.2 rfl)).trans hX
            go_wp2_with (at_builtin; refine wpList_append_any _ rfl _ _ 55 rfl w.heap.size 97 i0 _ 2 16 Try.underlying55 hi0 hz0 hz1 hz2 rfl (by decide) _ (P.length + g) _ rfl (ownC_keep hid ((Below.refl _ _).alloc (Nat.le_refl _) _)) _ 1 1 [.int .i64 (celT ta tb g).x, .int .i64 (celT ta tb g).y] rfl (.inr ⟨_, rfl, World.news_of_block (heap_newW wr (.cells #[.int .i64 (celT ta tb g).x, .int .i64 (celT ta tb g).y] 97))⟩) rfl (fun u hu => by simp at hu; rcases hu with rfl | rfl <;> rfl) (by unfold maxLen; omega) (by omega) (by simp; omega) ?_; intro vq wx hown hgrow hat; obtain ⟨yy0, yy1⟩ := cell_two (HXK.out wx hgrow))
            have hid2 := ownC_keep hid HAL.out
            have hown2 : CNew wx w.heap.size vq (P ++ (legI ta tb).take (g + 1)) := by
              rw [HTK.out g hgl, ← List.append_assoc]
              exact CNew.snoc (HTL.out g hg) hown
            have IX : Hid (CNew wx w.heap.size vq (P ++ (legI ta tb).take (g + 1)) ∧ Below w.heap.size w wx) := ⟨hown2, (below_step HR.out.1.2 HAL.out).grown hgrow (below_step HR.out.1.2 HAL.out).size (fun q hq => ownC_ge hid q hq)⟩
            have LX : Hid (LegSt wx G S F T ta tb ((g + 1 : Nat) : Int)) := by
              have h := HR.out.2.1.keep HAL.out
              rw [Nat.min_eq_left (by omega)] at h
              exact h.far hgrow (own_type hid2 h.g (by decide)) (own_type hid2 h.s (by decide)) (fun e => (HR.out.2.2.2.1 F e.symm).1 rfl) (fun e => (HR.out.2.2.2.1 T e.symm).2.1 rfl)
            have AX : Hid (w.heap.size ≤ wx.heap.size ∧ ∀ q, vq.ownBlock = some q → q ≠ F ∧ q ≠ T ∧ q < wx.heap.size) := ⟨IX.out.2.size, fun q hq => by
              have h1 := ownC_lt hown q hq
              rcases hat with e | e
              · rw [e] at hq
                have h2 := HR.out.2.2.2.1 q hq
                exact ⟨h2.1, h2.2.1, h1⟩
              · rw [e] at hq
                injection hq with hq
                have h3 := lt_of_block (HR.out.2.1.keep HAL.out).f
                have h4 := lt_of_block (HR.out.2.1.keep HAL.out).t
                exact ⟨by omega, by omega, h1⟩⟩
            have BY : Hid (Below wx.heap.size wx (wx.alloc (.cells #[.int .i64 (celT ta tb g).x, .int .i64 (celT ta tb g).y] 97))) := (Below.refl _ _).alloc (Nat.le_refl _) _
            have XY : Hid ((wx.alloc (.cells #[.int .i64 (celT ta tb g).x, .int .i64 (celT ta tb g).y] 97)).heap[wx.heap.size]? = some (.cells #[.int .i64 (celT ta tb g).x, .int .i64 (celT ta tb g).y] 97 (0, 0))) := heap_newW wx _
            have hXl : wx.heap.size ≠ F ∧ wx.heap.size ≠ T ∧ wx.heap.size ≠ G ∧ wx.heap.size ≠ S := by
              have h1 := lt_of_block LX.out.f
              have h2 := lt_of_block LX.out.t
              have h3 := lt_of_block LX.out.g
              have h4 := lt_of_block LX.out.s
              exact ⟨by omega, by omega, by omega, by omega⟩
            have HXL : Hid (wx.heap.size ≠ F ∧ wx.heap.size ≠ T ∧ wx.heap.size ≠ G ∧ wx.heap.size ≠ S) := hXl
            have IY : Hid (CNew (wx.alloc (.cells #[.int .i64 (celT ta tb g).x, .int .i64 (celT ta tb g).y] 97)) w.heap.size vq (P ++ (legI ta tb).take (g + 1)) ∧ Below w.heap.size w (wx.alloc (.cells #[.int .i64 (celT ta tb g).x, .int .i64 (celT ta tb g).y] 97))) := ⟨ownC_keep IX.out.1 BY.out, below_step IX.out.2 BY.out⟩
            have LY : Hid (LegSt (wx.alloc (.cells #[.int .i64 (celT ta tb g).x, .int .i64 (celT ta tb g).y] 97)) G S F T ta tb ((g + 1 : Nat) : Int)) := LX.out.keep BY.out
            obtain ⟨qa, qc, rfl⟩ := ownC_slice hown
            clear hown hown2 hgrow hat hid hid2 HR HAL HXK IX LX BY yy0 yy1 y0 y1 hXl
            generalize (wx.alloc (.cells #[.int .i64 (celT ta tb g).x, .int .i64 (celT ta tb g).y] 97)) = wy at *
            generalize wx.heap.size = X2 at *
            refine (next_any ta tb (g + 1) G S F T _ LY.out (by omega) hia hib).mono ?_
            rintro e wz ⟨rfl, hLz, hgz⟩
            have hrz : wz.heap[X2]? = some (.cells #[.int .i64 (celT ta tb g).x, .int .i64 (celT ta tb g).y] 97 (0, 0)) := (hgz.block X2 (lt_of_block XY.out) (fun e => HXL.out.2.2.1 (by injection e))).trans XY.out
            have IZ : Hid (CNew wz w.heap.size (.slice qa (P.length + g + 1) qc) (P ++ (legI ta tb).take (g + 1)) ∧ Below w.heap.size w wz) := ⟨ownC_far IY.out.1 hgz (fun q hq e => own_type IY.out.1 LY.out.g (by decide) (by rw [hq, e])), IY.out.2.grown hgz IY.out.2.size (fun q e => by injection e; omega)⟩
            have LZ : Hid (LegSt wz G S F T ta tb ((min (g + 1 + 1) (NNat ta tb) : Nat) : Int)) := hLz
            clear hLz hgz IY LY XY
            go_wp2_with (refine wpList_store_row rfl 97 _ _ rfl X2 #[.int .i64 (celT ta tb (g + 1)).x, .int .i64 (celT ta tb (g + 1)).y] rfl rfl 97 _ hrz (by kernel_rfl) rfl (by simp [Value.oneCell']) ?_)
            have HW : Hid (Below w.heap.size w wz) := IZ.out.2
            have hX2w : w.heap.size ≤ X2 := AX.out.1
            refine ⟨⟨g + 1, X2, by omega, ⟨_, _, rfl⟩, rfl, rfl, ⟨ownC_far IZ.out.1 (grown_rowW wz X2 _) (fun q hq e => ?_), below_setRow IZ.out.2 hX2w _⟩, LZ.out.row (fun e => HXL.out.2.2.1 e.symm) (fun e => HXL.out.2.2.2 e.symm) (fun e => HXL.out.1 e.symm) (fun e => HXL.out.2.1 e.symm) _, setRow_heap _ _ _ _ _ _ hrz, fun q hq => ?_, HXL.out⟩, ?_⟩
            · have h := AX.out.2 q hq
              injection e
              omega
            · have h := AX.out.2 q hq
              exact ⟨h.1, h.2.1, by omega⟩
            · simp only [sl]
              omega
          · have HF : Hid (g = NNat ta tb) := by show g = _; omega
            have HEE : Hid (alongTo (tat ts) (k + 1) = P ++ (legI ta tb).take g) := by
              show _ = _
              rw [HE.out, HF.out, ← HLI.out]
            go_wp2_with fail
            refine ⟨⟨k + 1, by omega, by go_num, ⟨a3, c3, by rw [HEE.out, HTL.out g hg]⟩, ?_⟩, by simp [intOf]; omega⟩
            rw [HEE.out]
            exact HR.out.1
    · have HF : Hid (k = ts.length) := by show k = ts.length; omega
      go_wp2
      go_ret
      exact ⟨.slice a (alongTo (tat ts) k).length c, rfl, by have h := HI.out.1; rw [HF.out] at h ⊢; exact h, HI.out.2⟩
end Go.Proofs.Ytfjblenkcfdbiaa
