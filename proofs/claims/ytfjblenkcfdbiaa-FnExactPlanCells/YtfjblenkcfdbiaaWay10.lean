
/-
  The cells along points: the specification's.
-/
import Derived.Test.YtfjblenkcfdbiaaWay9
namespace Go.Proofs.Ytfjblenkcfdbiaa
open Go.RowKit
set_option linter.unusedSimpArgs false
set_option linter.unusedVariables false

theorem tat_turns {ps : List Tri} {ws : List ByteArray} {i : Nat} (h : i < ws.length) : tat (turns ps ws) i = celOf ps (wat ws i) := by
  simp [tat, turns, wat, h]
theorem addr_two (g j : Nat) : (⟨g, 2, none⟩ : Addr).add j = ⟨g, 2 + j, none⟩ := by simp [Addr.add]
/-- What lies behind the first cell of a row. -/
theorem CNew.tail {w : World} {B n cap g : Nat} {l : List Cel} (h : CNew w B (.slice (some ⟨g, 0, none⟩) n cap) l) : ∀ j u, (celRows (l.drop 1))[j]? = some u → w.cell? ((⟨g, 2, none⟩ : Addr).add j) = some u := by
  intro j u hu
  obtain ⟨a, cap', e, _, _, hc⟩ := h.at
  cases e
  have hj := (List.getElem?_eq_some_iff.1 hu).1
  rw [celRows_len, List.length_drop] at hj
  have hi : j / 2 + 1 < l.length := by omega
  obtain ⟨g', e9, e0, e1⟩ := hc (j / 2 + 1) _ (tat_get hi)
  cases e9
  have hd : (l.drop 1)[j / 2]? = some (tat l (j / 2 + 1)) := by rw [List.getElem?_drop, Nat.add_comm 1]; exact tat_get hi
  obtain ⟨f0, f1⟩ := celRows_get (l.drop 1) (j / 2) _ hd
  rcases (show j % 2 = 0 ∨ j % 2 = 1 by omega) with h2 | h2
  · rw [show j / 2 * 2 = j by omega, hu] at f0
    injection f0 with f0
    subst f0
    have ea : (⟨g, 2, none⟩ : Addr).add j = ⟨g, (j / 2 + 1) * 2, none⟩ := by
      rw [addr_two]
      congr 1
      omega
    rw [ea]
    exact e0
  · rw [show j / 2 * 2 + 1 = j by omega, hu] at f1
    injection f1 with f1
    subst f1
    have ea : (⟨g, 2, none⟩ : Addr).add j = ⟨g, (j / 2 + 1) * 2 + 1, none⟩ := by
      rw [addr_two]
      congr 1
      omega
    rw [ea]
    exact e1
theorem CNew.app {w : World} {B n m : Nat} {v : Value} {l r : List Cel} (hn : l.length = n) (hm : r.length = m) (h : w.ownsRow B 97 2 v (n + m) (celRows l ++ celRows r)) : CNew w B v (l ++ r) := by
  unfold CNew
  rw [List.length_append]
  have e : celRows (l ++ r) = celRows l ++ celRows r := by simp [celRows]
  rw [e, hn, hm]
  exact h
theorem cel_one (l : List Cel) : ∀ u ∈ celRows l, u.oneCell' = true := fun u hu => by
  obtain ⟨c, _, hc⟩ := List.mem_flatMap.1 hu
  simp [celRow] at hc
  rcases hc with rfl | rfl <;> rfl

set_option maxRecDepth 100000 in
set_option maxHeartbeats 12800000 in
theorem specCells_any (vk vp v : Value) (ks ps : List Tri) (ws : List ByteArray) (w : World) (hk : TrisAt w vk ks) (hp : TrisAt w vp ps) (nk : Names ks) (np : Names ps) (hst : StrsAt w v ws) :
    Calls Try.prog 23 #[.agg #[vk, vp], v] w fun e w' => ∃ u, e = .returned (.tuple #[u, .bool (cellsOkB ks ps ws)]) ∧ CNew w' w.heap.size u (cellsR ks ps ws) ∧ Below w.heap.size w w' := by
  obtain ⟨i0, hi0, hz0, hz1, hz2⟩ := info_parts infoCell
  have HA : Hid (Below w.heap.size w (w.alloc (.cells #[vk, vp] 31))) := (Below.refl _ _).alloc (Nat.le_refl _) _
  have HZ : Hid ((w.alloc (.cells #[vk, vp] 31)).heap.size = w.heap.size + 1) := by show _ = _; simp
  have Q0 : Hid (∀ wx : World, Below (w.alloc (.cells #[vk, vp] 31)).heap.size (w.alloc (.cells #[vk, vp] 31)) wx → (wx.cell? ⟨w.heap.size, 0, none⟩ = some vk ∧ wx.cell? ⟨w.heap.size, 1, none⟩ = some vp)) := fun wx hx => ⟨cell_keep hx (Nat.le_refl _) (by simp [go_sem]), cell_keep hx (Nat.le_refl _) (by simp [go_sem])⟩
  have GB : Hid (∀ wx : World, Below w.heap.size w wx → Calls Try.prog 9 #[.agg #[vk, vp]] wx fun e w' => e = .returned (.bool (kindsB ks && pointsB ps)) ∧ Below wx.heap.size wx w') := fun wx hx => specBase_any vk vp ks ps wx (hk.keep hx) (hp.keep hx) nk np
  have GR : Hid (pointsB ps = true → ∀ wx : World, Below w.heap.size w wx → Calls Try.prog 58 #[.agg #[vk, vp], v] wx fun e w' => e = .returned (.bool (routeB ps ws)) ∧ Below wx.heap.size wx w') := fun hpp wx hx => l2RouteOk_any vk vp v ps ws wx (hp.keep hx) (hst.keep hx) (fun x => (has_mem (points_asc hpp)).symm)
  have GA : Hid (pointsB ps = true → ∀ x, hasB ps x = true → ∀ wx : World, Below w.heap.size w wx → Calls Try.prog 59 #[.agg #[vk, vp], .string x] wx fun e w' => e = .returned (cv (celOf ps x)) ∧ Below wx.heap.size wx w') := fun hpp x hx wx hwx => l7At_any vk vp ps x wx (hp.keep hwx) hpp hx
  have HST : Hid (∀ wx : World, Below w.heap.size w wx → StrsAt wx v ws) := fun wx hx => hst.keep hx
  obtain ⟨g, off, cap, rfl, hlc, hcm, -⟩ := hst
  unfold maxLen at hcm
  clear hk hp
  have W1B : Hid (Below (w.alloc (.cells #[vk, vp] 31)).heap.size (w.alloc (.cells #[vk, vp] 31)) ((w.alloc (.cells #[vk, vp] 31)).alloc (.cells #[] 97))) := (Below.refl _ _).alloc (Nat.le_refl _) _
  have HR : Hid (((w.alloc (.cells #[vk, vp] 31)).alloc (.cells #[] 97)).heap[w.heap.size + 1]? = some (.cells #[] 97 (0, 0))) := by
    have h := heap_newW (w.alloc (.cells #[vk, vp] 31)) (.cells #[] 97)
    rw [show (w.alloc (.cells #[vk, vp] 31)).heap.size = w.heap.size + 1 by simp] at h
    exact h
  have p0 : ((w.alloc (.cells #[vk, vp] 31)).alloc (.cells #[] 97)).cell? ⟨w.heap.size, 0, none⟩ = some vk := by simp [go_sem]
  have p1 : ((w.alloc (.cells #[vk, vp] 31)).alloc (.cells #[] 97)).cell? ⟨w.heap.size, 1, none⟩ = some vp := by simp [go_sem]
  go_enter Try.func23, Try.ntmps23
  go_wp2_with fail
  generalize ((w.alloc (.cells #[vk, vp] 31)).alloc (.cells #[] 97)) = w1 at *
  generalize (w.alloc (.cells #[vk, vp] 31)) = wA at *
  have J1 : Hid (w1.ownsRow (w.heap.size + 1) 97 2 (.slice (some ⟨w.heap.size + 1, 0, none⟩) 0 0) 0 []) := ⟨rfl, .inr ⟨w.heap.size + 1, 0, #[], rfl, Nat.le_refl _, HR.out, Nat.le_refl _, Nat.zero_le _, rfl, rfl⟩⟩
  refine (GB.out _ (below_step HA.out W1B.out)).mono ?_
  rintro e w2 ⟨rfl, hb2⟩
  have B2 : Hid (Below wA.heap.size wA w2) := below_step W1B.out hb2
  have J2 : Hid (w2.ownsRow (w.heap.size + 1) 97 2 (.slice (some ⟨w.heap.size + 1, 0, none⟩) 0 0) 0 []) := ownC_keep J1.out hb2
  clear hb2 p0 p1 W1B HR J1
  obtain ⟨p0, p1⟩ := Q0.out _ B2.out
  cases hbb : (kindsB ks && pointsB ps)
  · have HE : Hid (cellsOkB ks ps ws = false ∧ cellsR ks ps ws = []) := by
      have h : cellsOkB ks ps ws = false := by unfold cellsOkB; rw [hbb]; rfl
      exact ⟨h, by unfold cellsR; rw [h]; rfl⟩
    clear hbb
    go_wp2
    go_ret2
    exact ⟨.slice (some ⟨w.heap.size + 1, 0, none⟩) 0 0, by rw [HE.out.1]; rfl, by rw [HE.out.2]; exact ownC_mono J2.out (by omega), below_step HA.out B2.out⟩
  have HBB : Hid ((kindsB ks && pointsB ps) = true) := hbb
  have HPP : Hid (pointsB ps = true) := by have h := hbb; rw [Bool.and_eq_true] at h; exact h.2
  clear hbb
  go_wp2_with fail
  refine (GR.out HPP.out _ (below_step HA.out B2.out)).mono ?_
  rintro e w3 ⟨rfl, hb3⟩
  have B3 : Hid (Below wA.heap.size wA w3) := below_step B2.out hb3
  have J3 : Hid (w3.ownsRow (w.heap.size + 1) 97 2 (.slice (some ⟨w.heap.size + 1, 0, none⟩) 0 0) 0 []) := ownC_keep J2.out hb3
  clear hb3 p0 p1 B2 J2
  obtain ⟨p0, p1⟩ := Q0.out _ B3.out
  cases hrr : routeB ps ws
  · have HE : Hid (cellsOkB ks ps ws = false ∧ cellsR ks ps ws = []) := by
      have h : cellsOkB ks ps ws = false := by unfold cellsOkB; rw [HBB.out, hrr]; rfl
      exact ⟨h, by unfold cellsR; rw [h]; rfl⟩
    clear hrr
    go_wp2
    go_ret2
    exact ⟨.slice (some ⟨w.heap.size + 1, 0, none⟩) 0 0, by rw [HE.out.1]; rfl, by rw [HE.out.2]; exact ownC_mono J3.out (by omega), below_step HA.out B3.out⟩
  have HRR : Hid (routeB ps ws = true) := hrr
  clear hrr
  have HIN : Hid (∀ c ∈ turns ps ws, c.In) := turns_in HPP.out HRR.out
  have HTL : Hid ((turns ps ws).length = ws.length) := by show _ = _; unfold turns; rw [List.length_map]
  obtain ⟨hw2, hw8⟩ := (route_all HRR.out).1
  have HHS : Hid (∀ i, i < ws.length → hasB ps (wat ws i) = true) := (route_all HRR.out).2
  have HCI : Hid (∀ i, i < ws.length → (celOf ps (wat ws i)).In) := fun i hi => celOf_in HPP.out (HHS.out i hi)
  have HAL : Hid (∀ k, k ≤ ws.length → (alongTo (tat (turns ps ws)) k).length ≤ 121) := fun k hk => by
    have h := alongTo_len HIN.out k (by rw [HTL.out]; exact hk)
    omega
  have r0 : w3.cell? ⟨g, off, none⟩ = some (.string (wat ws 0)) := by simpa using (HST.out _ (below_step HA.out B3.out)).cell 0 (by omega)
  have hj0 : (0 : Int) < (ws.length : Int) := by omega
  have hj1 : 0 < ws.length := by omega
  go_wp2_with fail
  refine wp_region_noPanic ?_
  refine wp_region_held_drew (S := fun w' => (w'.cell? ⟨w.heap.size, 0, none⟩ = some vk ∧ w'.cell? ⟨w.heap.size, 1, none⟩ = some vp) ∧ w'.cell? ⟨g, off, none⟩ = some (.string (wat ws 0))) (by kernel_rfl) ?_ (fun hHeld => ?_)
  · exact ⟨⟨cell_keep (Below.refl _ _).drew (Nat.le_refl _) p0, cell_keep (Below.refl _ _).drew (Nat.le_refl _) p1⟩, cell_keep (Below.refl _ _).drew (Nat.le_refl _) r0⟩
  have I0 : Hid (Below wA.heap.size wA w3.drew ∧ w3.drew.ownsRow (w.heap.size + 1) 97 2 (.slice (some ⟨w.heap.size + 1, 0, none⟩) 0 0) 0 []) := ⟨below_step B3.out (Below.refl _ _).drew, ownC_keep J3.out (Below.refl _ _).drew⟩
  clear B3 J3 p0 p1 r0
  have QS : Hid (∀ wx : World, Below wA.heap.size wA wx → (wx.cell? ⟨w.heap.size, 0, none⟩ = some vk ∧ wx.cell? ⟨w.heap.size, 1, none⟩ = some vp) ∧ wx.cell? ⟨g, off, none⟩ = some (.string (wat ws 0))) := fun wx hx => ⟨Q0.out _ hx, by simpa using (HST.out _ (below_step HA.out hx)).cell 0 (by omega)⟩
  generalize w3.drew = W at *
  refine wpAnyH_take (i := 0) (v := ?_) rfl (by kernel_rfl) (by kernel_rfl) (by kernel_rfl) (fun _ _ _ h => h) (Or.inl ⟨by rfl, ?_⟩) (by assumption) ?_
  rotate_left
  · intro w hSw; (try dsimp only at hSw); go_simp; try with_reducible rfl
  simp only [Act.put, List.setIfInBounds_toArray, List.set_cons_zero, List.set_cons_succ, List.getElem_toArray, List.getElem_cons_succ, List.getElem_cons_zero]
  refine wpAnyH_take (i := 1) (v := ?_) rfl (by kernel_rfl) (by kernel_rfl) (by kernel_rfl) (fun _ _ _ h => h) (Or.inl ⟨by rfl, ?_⟩) (by assumption) ?_
  rotate_left
  · intro w hSw; (try dsimp only at hSw); go_simp; try with_reducible rfl
  simp only [Act.put, List.setIfInBounds_toArray, List.set_cons_zero, List.set_cons_succ, List.getElem_toArray, List.getElem_cons_succ, List.getElem_cons_zero]
  refine wpAnyH_take (i := 2) (v := ?_) rfl (by kernel_rfl) (by kernel_rfl) (by kernel_rfl) (fun _ _ _ h => h) (Or.inl ⟨by rfl, ?_⟩) (by assumption) ?_
  rotate_left
  · intro w hSw; (try dsimp only at hSw); go_simp; try with_reducible rfl
  simp only [Act.put, List.setIfInBounds_toArray, List.set_cons_zero, List.set_cons_succ, List.getElem_toArray, List.getElem_cons_succ, List.getElem_cons_zero]
  refine wpAnyH_take (i := 3) (v := ?_) rfl (by kernel_rfl) (by kernel_rfl) (by kernel_rfl) (fun _ _ _ h => h) (Or.inl ⟨by rfl, ?_⟩) (by assumption) ?_
  rotate_left
  · intro w hSw; (try dsimp only at hSw); go_simp; try with_reducible rfl
  simp only [Act.put, List.setIfInBounds_toArray, List.set_cons_zero, List.set_cons_succ, List.getElem_toArray, List.getElem_cons_succ, List.getElem_cons_zero]
  refine wpAnyH_take (i := 4) (v := ?_) rfl (by kernel_rfl) (by kernel_rfl) (by kernel_rfl) (fun _ _ _ h => h) (Or.inl ⟨by rfl, ?_⟩) (by assumption) ?_
  rotate_left
  · intro w hSw; (try dsimp only at hSw); go_simp; try with_reducible rfl
  simp only [Act.put, List.setIfInBounds_toArray, List.set_cons_zero, List.set_cons_succ, List.getElem_toArray, List.getElem_cons_succ, List.getElem_cons_zero]
  clear hHeld
  refine wpAnyH_ready (rs := [5]) (by kernel_rfl) (by simp) ?_
  refine AllReadyH.cons rfl (fun K hK => ?_) AllReadyH.nil
  go_simp
  refine (GA.out HPP.out _ (HHS.out 0 (by omega)) _ (below_step HA.out I0.out.1)).mono ?_
  rintro e W2 ⟨rfl, hbz⟩
  have I2 : Hid (Below wA.heap.size wA W2 ∧ W2.ownsRow (w.heap.size + 1) 97 2 (.slice (some ⟨w.heap.size + 1, 0, none⟩) 0 0) 0 []) := ⟨below_step I0.out.1 hbz, ownC_keep I0.out.2 hbz⟩
  refine hK.out _ _ (QS.out _ I2.out.1) (fun _ => ?_)
  clear hK K hbz I0
  have HT0 : Hid (tat (turns ps ws) 0 = celOf ps (wat ws 0)) := tat_turns (by omega)
  generalize celOf ps (wat ws 0) = c0 at *
  have hAl : Below W2.heap.size W2 (W2.alloc (.cells #[.int .i64 c0.x, .int .i64 c0.y] 97)) := (Below.refl _ _).alloc (Nat.le_refl _) _
  have I3 : Hid (Below wA.heap.size wA (W2.alloc (.cells #[.int .i64 c0.x, .int .i64 c0.y] 97)) ∧ (W2.alloc (.cells #[.int .i64 c0.x, .int .i64 c0.y] 97)).ownsRow (w.heap.size + 1) 97 2 (.slice (some ⟨w.heap.size + 1, 0, none⟩) 0 0) 0 []) := ⟨below_step I2.out.1 hAl, ownC_keep I2.out.2 hAl⟩
  have HNB : Hid ((W2.alloc (.cells #[.int .i64 c0.x, .int .i64 c0.y] 97)).heap[W2.heap.size]? = some (.cells #[.int .i64 c0.x, .int .i64 c0.y] 97 (0, 0))) := heap_newW W2 _
  clear hAl I2
  refine wpAnyH_ready (rs := [6]) (by kernel_rfl) (by simp) ?_
  refine AllReadyH.cons rfl (fun K hK => ?_) AllReadyH.nil
  go_simp
  refine hK.out _ _ (QS.out _ I3.out.1) (fun _ => ?_)
  clear hK K
  generalize (W2.alloc (.cells #[.int .i64 c0.x, .int .i64 c0.y] 97)) = W3 at *
  generalize W2.heap.size = XN at *
  refine wpAnyH_ready (rs := [7]) (by kernel_rfl) (by simp) ?_
  refine AllReadyH.cons rfl (fun K hK => ?_) AllReadyH.nil
  refine step_append_any _ rfl _ _ 55 rfl (w.heap.size + 1) 97 i0 _ 2 16 Try.underlying55 hi0 hz0 hz1 hz2 rfl (by decide) _ 0 _ rfl I3.out.2 _ 1 1 [.int .i64 c0.x, .int .i64 c0.y] rfl (.inr ⟨_, rfl, World.news_of_block HNB.out⟩) rfl (fun u hu => by simp at hu; rcases hu with rfl | rfl <;> rfl) (by unfold maxLen; omega) (by omega) (by have h1 := I3.out.1.size; have h2 := HZ.out; omega) ?_
  intro vq wx hown hgrow hat
  have I4 : Hid (CNew wx (w.heap.size + 1) vq (alongTo (tat (turns ps ws)) 1) ∧ Below wA.heap.size wA wx) := by
    refine ⟨?_, I3.out.1.grown hgrow I3.out.1.size (fun q hq => by have h1 := ownC_ge I3.out.2 q hq; have h2 := HZ.out; omega)⟩
    show CNew wx (w.heap.size + 1) vq [tat (turns ps ws) 0]
    rw [HT0.out]
    exact hown
  obtain ⟨qa, qc, rfl⟩ := ownC_slice hown
  have hHeld := QS.out _ I4.out.2
  refine hK.out _ _ hHeld (fun _ => ?_)
  clear hK K hown hgrow hat I3 HNB
  refine wpAnyH_take (i := 8) (v := ?_) rfl (by kernel_rfl) (by kernel_rfl) (by kernel_rfl) (fun _ _ _ h => h) (Or.inl ⟨by rfl, ?_⟩) (by assumption) ?_
  rotate_left
  · intro w hSw; (try dsimp only at hSw); go_simp; try with_reducible rfl
  simp only [Act.put, List.setIfInBounds_toArray, List.set_cons_zero, List.set_cons_succ, List.getElem_toArray, List.getElem_cons_succ, List.getElem_cons_zero]
  clear hHeld QS
  refine wpAnyH_done (by kernel_rfl) ?_ _
  refine NoPanic.normal ?_
  go_wp2_with fail
  go_loopw [6, 7] (fun v i wr => ∃ k : Nat, 1 ≤ k ∧ k ≤ ws.length ∧ i = .int .i64 k ∧ (∃ a' c', v = .slice a' (alongTo (tat (turns ps ws)) k).length c') ∧ Hid (CNew wr (w.heap.size + 1) v (alongTo (tat (turns ps ws)) k) ∧ Below wA.heap.size wA wr)) (fun _ i _ => ws.length - (intOf i).toNat)
  case atStart => exact ⟨1, Nat.le_refl _, by omega, rfl, ⟨_, _, rfl⟩, I4⟩
  case round =>
    clear I4
    obtain ⟨k, hk0, hk, rfl, ⟨a', c', rfl⟩, HI⟩ := hrel
    by_cases hlt : k < ws.length
    · have HTA : Hid (tat (turns ps ws) (k - 1) = celOf ps (wat ws (k - 1))) := tat_turns (by omega)
      have HTB : Hid (tat (turns ps ws) k = celOf ps (wat ws k)) := tat_turns hlt
      have HSt : Hid (alongTo (tat (turns ps ws)) (k + 1) = alongTo (tat (turns ps ws)) k ++ legI (celOf ps (wat ws (k - 1))) (celOf ps (wat ws k))) := by
        show _ = _
        rw [alongTo_step _ _ (by omega), HTA.out, HTB.out]
      have hAk := HAL.out k hk
      have hAk2 := HAL.out (k + 1) (by omega)
      rw [HSt.out, List.length_append] at hAk2
      have QS : Hid (∀ wx : World, Below wA.heap.size wA wx → (wx.cell? ⟨w.heap.size, 0, none⟩ = some vk ∧ wx.cell? ⟨w.heap.size, 1, none⟩ = some vp) ∧ wx.cell? ⟨g, off + (k - 1), none⟩ = some (.string (wat ws (k - 1))) ∧ wx.cell? ⟨g, off + k, none⟩ = some (.string (wat ws k))) := fun wx hx => ⟨Q0.out _ hx, (HST.out _ (below_step HA.out hx)).cell (k - 1) (by omega), (HST.out _ (below_step HA.out hx)).cell k hlt⟩
      have HIA := HCI.out (k - 1) (by omega)
      have HIB := HCI.out k hlt
      have HHA : Hid (hasB ps (wat ws (k - 1)) = true ∧ hasB ps (wat ws k) = true) := ⟨HHS.out _ (by omega), HHS.out _ hlt⟩
      have hwr : IntKind.i64.wrap ((k : Int) - 1) = ((k - 1 : Nat) : Int) := by rw [IntKind.wrap_i64]; omega
      have hj2 : (0 : Int) ≤ ((k - 1 : Nat) : Int) := by omega
      have hj3 : ((k - 1 : Nat) : Int) < (ws.length : Int) := by omega
      have hj4 : (0 : Int) ≤ (k : Int) := by omega
      have hj5 : (k : Int) < (ws.length : Int) := by omega
      have hj6 : k - 1 < ws.length := by omega
      generalize alongTo (tat (turns ps ws)) k = P at *
      have I0 : Hid (Below wA.heap.size wA wr.drew ∧ CNew wr.drew (w.heap.size + 1) (.slice a' P.length c') P) := ⟨below_step HI.out.2 (Below.refl _ _).drew, ownC_keep HI.out.1 (Below.refl _ _).drew⟩
      go_wp2_with fail
      refine wp_region_noPanic ?_
      refine wp_region_held_drew (S := fun w' => (w'.cell? ⟨w.heap.size, 0, none⟩ = some vk ∧ w'.cell? ⟨w.heap.size, 1, none⟩ = some vp) ∧ w'.cell? ⟨g, off + (k - 1), none⟩ = some (.string (wat ws (k - 1))) ∧ w'.cell? ⟨g, off + k, none⟩ = some (.string (wat ws k))) (by kernel_rfl) ?_ (fun hHeld => ?_)
      · exact QS.out _ I0.out.1
      clear HI
      generalize wr.drew = W at *
      refine wpAnyH_take (i := 0) (v := ?_) rfl (by kernel_rfl) (by kernel_rfl) (by kernel_rfl) (fun _ _ _ h => h) (Or.inl ⟨by rfl, ?_⟩) (by assumption) ?_
      rotate_left
      · intro w hSw; (try dsimp only at hSw); go_simp; try with_reducible rfl
      simp only [Act.put, List.setIfInBounds_toArray, List.set_cons_zero, List.set_cons_succ, List.getElem_toArray, List.getElem_cons_succ, List.getElem_cons_zero]
      refine wpAnyH_take (i := 1) (v := ?_) rfl (by kernel_rfl) (by kernel_rfl) (by kernel_rfl) (fun _ _ _ h => h) (Or.inl ⟨by rfl, ?_⟩) (by assumption) ?_
      rotate_left
      · intro w hSw; (try dsimp only at hSw); go_simp; try with_reducible rfl
      simp only [Act.put, List.setIfInBounds_toArray, List.set_cons_zero, List.set_cons_succ, List.getElem_toArray, List.getElem_cons_succ, List.getElem_cons_zero]
      refine wpAnyH_take (i := 2) (v := ?_) rfl (by kernel_rfl) (by kernel_rfl) (by kernel_rfl) (fun _ _ _ h => h) (Or.inl ⟨by rfl, ?_⟩) (by assumption) ?_
      rotate_left
      · intro w hSw; (try dsimp only at hSw); go_simp; try with_reducible rfl
      simp only [Act.put, List.setIfInBounds_toArray, List.set_cons_zero, List.set_cons_succ, List.getElem_toArray, List.getElem_cons_succ, List.getElem_cons_zero]
      refine wpAnyH_take (i := 3) (v := ?_) rfl (by kernel_rfl) (by kernel_rfl) (by kernel_rfl) (fun _ _ _ h => h) (Or.inl ⟨by rfl, ?_⟩) (by assumption) ?_
      rotate_left
      · intro w hSw; (try dsimp only at hSw); go_simp; try with_reducible rfl
      simp only [Act.put, List.setIfInBounds_toArray, List.set_cons_zero, List.set_cons_succ, List.getElem_toArray, List.getElem_cons_succ, List.getElem_cons_zero]
      refine wpAnyH_take (i := 4) (v := ?_) rfl (by kernel_rfl) (by kernel_rfl) (by kernel_rfl) (fun _ _ _ h => h) (Or.inl ⟨by rfl, ?_⟩) (by assumption) ?_
      rotate_left
      · intro w hSw; (try dsimp only at hSw); go_simp; try with_reducible rfl
      simp only [Act.put, List.setIfInBounds_toArray, List.set_cons_zero, List.set_cons_succ, List.getElem_toArray, List.getElem_cons_succ, List.getElem_cons_zero]
      refine wpAnyH_take (i := 5) (v := ?_) rfl (by kernel_rfl) (by kernel_rfl) (by kernel_rfl) (fun _ _ _ h => h) (Or.inl ⟨by rfl, ?_⟩) (by assumption) ?_
      rotate_left
      · intro w hSw; (try dsimp only at hSw); go_simp; try with_reducible rfl
      simp only [Act.put, List.setIfInBounds_toArray, List.set_cons_zero, List.set_cons_succ, List.getElem_toArray, List.getElem_cons_succ, List.getElem_cons_zero]
      refine wpAnyH_take (i := 6) (v := ?_) rfl (by kernel_rfl) (by kernel_rfl) (by kernel_rfl) (fun _ _ _ h => h) (Or.inl ⟨by rfl, ?_⟩) (by assumption) ?_
      rotate_left
      · intro w hSw; (try dsimp only at hSw); go_simp; try with_reducible rfl
      simp only [Act.put, List.setIfInBounds_toArray, List.set_cons_zero, List.set_cons_succ, List.getElem_toArray, List.getElem_cons_succ, List.getElem_cons_zero]
      refine wpAnyH_take (i := 8) (v := ?_) rfl (by kernel_rfl) (by kernel_rfl) (by kernel_rfl) (fun _ _ _ h => h) (Or.inl ⟨by rfl, ?_⟩) (by assumption) ?_
      rotate_left
      · intro w hSw; (try dsimp only at hSw); go_simp; try with_reducible rfl
      simp only [Act.put, List.setIfInBounds_toArray, List.set_cons_zero, List.set_cons_succ, List.getElem_toArray, List.getElem_cons_succ, List.getElem_cons_zero]
      refine wpAnyH_take (i := 9) (v := ?_) rfl (by kernel_rfl) (by kernel_rfl) (by kernel_rfl) (fun _ _ _ h => h) (Or.inl ⟨by rfl, ?_⟩) (by assumption) ?_
      rotate_left
      · intro w hSw; (try dsimp only at hSw); go_simp; try with_reducible rfl
      simp only [Act.put, List.setIfInBounds_toArray, List.set_cons_zero, List.set_cons_succ, List.getElem_toArray, List.getElem_cons_succ, List.getElem_cons_zero]
      refine wpAnyH_take (i := 10) (v := ?_) rfl (by kernel_rfl) (by kernel_rfl) (by kernel_rfl) (fun _ _ _ h => h) (Or.inl ⟨by rfl, ?_⟩) (by assumption) ?_
      rotate_left
      · intro w hSw; (try dsimp only at hSw); go_simp; try with_reducible rfl
      simp only [Act.put, List.setIfInBounds_toArray, List.set_cons_zero, List.set_cons_succ, List.getElem_toArray, List.getElem_cons_succ, List.getElem_cons_zero]
      refine wpAnyH_take (i := 11) (v := ?_) rfl (by kernel_rfl) (by kernel_rfl) (by kernel_rfl) (fun _ _ _ h => h) (Or.inl ⟨by rfl, ?_⟩) (by assumption) ?_
      rotate_left
      · intro w hSw; (try dsimp only at hSw); go_simp; try with_reducible rfl
      simp only [Act.put, List.setIfInBounds_toArray, List.set_cons_zero, List.set_cons_succ, List.getElem_toArray, List.getElem_cons_succ, List.getElem_cons_zero]
      refine wpAnyH_take (i := 12) (v := ?_) rfl (by kernel_rfl) (by kernel_rfl) (by kernel_rfl) (fun _ _ _ h => h) (Or.inl ⟨by rfl, ?_⟩) (by assumption) ?_
      rotate_left
      · intro w hSw; (try dsimp only at hSw); go_simp; try with_reducible rfl
      simp only [Act.put, List.setIfInBounds_toArray, List.set_cons_zero, List.set_cons_succ, List.getElem_toArray, List.getElem_cons_succ, List.getElem_cons_zero]
      clear hHeld
      refine wpAnyH_ready (rs := [7]) (by kernel_rfl) (by simp) ?_
      refine AllReadyH.cons rfl (fun K hK => ?_) AllReadyH.nil
      go_simp
      refine (GA.out HPP.out _ HHA.out.1 _ (below_step HA.out I0.out.1)).mono ?_
      rintro e W2 ⟨rfl, hbz⟩
      have I2 : Hid (Below wA.heap.size wA W2 ∧ CNew W2 (w.heap.size + 1) (.slice a' P.length c') P) := ⟨below_step I0.out.1 hbz, ownC_keep I0.out.2 hbz⟩
      refine hK.out _ _ (QS.out _ I2.out.1) (fun _ => ?_)
      clear hK K hbz I0
      refine wpAnyH_ready (rs := [13]) (by kernel_rfl) (by simp) ?_
      refine AllReadyH.cons rfl (fun K hK => ?_) AllReadyH.nil
      go_simp
      refine (GA.out HPP.out _ HHA.out.2 _ (below_step HA.out I2.out.1)).mono ?_
      rintro e W3 ⟨rfl, hbz⟩
      have I3 : Hid (Below wA.heap.size wA W3 ∧ CNew W3 (w.heap.size + 1) (.slice a' P.length c') P) := ⟨below_step I2.out.1 hbz, ownC_keep I2.out.2 hbz⟩
      refine hK.out _ _ (QS.out _ I3.out.1) (fun _ => ?_)
      clear hK K hbz I2
      generalize celOf ps (wat ws (k - 1)) = ca at *
      generalize celOf ps (wat ws k) = cb at *
      refine wpAnyH_ready (rs := [14]) (by kernel_rfl) (by simp) ?_
      refine AllReadyH.cons rfl (fun K hK => ?_) AllReadyH.nil
      go_simp
      refine (l7Leg_any ca cb _ HIA HIB).mono ?_
      rintro e W4 ⟨u, rfl, hu, hbz⟩
      have I4 : Hid (Below wA.heap.size wA W4 ∧ CNew W4 (w.heap.size + 1) (.slice a' P.length c') P) := ⟨below_step I3.out.1 hbz, ownC_keep I3.out.2 hbz⟩
      obtain ⟨aL, cL, rfl⟩ := ownC_slice hu
      have hll : (legS ca cb).length = NNat ca cb + 1 := legS_len ca cb
      obtain ⟨BL, rfl⟩ : ∃ BL, aL = some ⟨BL, 0, none⟩ := by
        rcases hu.2 with ⟨h, h0⟩ | ⟨g, cap, cur, h, _⟩
        · omega
        · injection h with h1 h2 h3
          exact ⟨g, h1⟩
      have hcL : (legS ca cb).length ≤ cL := by
        obtain ⟨x1, x2, x3, x4, _⟩ := hu.at
        injection x3 with _ _ x5
        omega
      have U4 : Hid (CNew W4 W3.heap.size (.slice (some ⟨BL, 0, none⟩) (NNat ca cb + 1) cL) (legS ca cb)) := by
        have h := hu
        rw [hll] at h
        exact h
      have HLL : Hid ((legI ca cb).length = NNat ca cb) := legI_len ca cb
      have HSM : Hid ((legS ca cb).drop 1 = legI ca cb) := leg_same ca cb
      rw [hll] at hcL
      rw [hll]
      have hHeld := QS.out _ I4.out.1
      refine hK.out _ _ hHeld (fun _ => ?_)
      clear hK K hbz I3 hu hll
      rw [HLL.out] at hAk2
      generalize NNat ca cb = m at *
      have hm1 : (1 : Int) ≤ (m : Int) + 1 := by omega
      refine wpAnyH_take (i := 15) (v := ?_) rfl (by kernel_rfl) (by kernel_rfl) (by kernel_rfl) (fun _ _ _ h => h) (Or.inl ⟨by rfl, ?_⟩) (by assumption) ?_
      rotate_left
      · intro w hSw; (try dsimp only at hSw); go_simp; try with_reducible rfl
      simp only [Act.put, List.setIfInBounds_toArray, List.set_cons_zero, List.set_cons_succ, List.getElem_toArray, List.getElem_cons_succ, List.getElem_cons_zero]
      clear hHeld
      refine wpAnyH_ready (rs := [16]) (by kernel_rfl) (by simp) ?_
      refine AllReadyH.cons rfl (fun K hK => ?_) AllReadyH.nil
      have hid := I4.out.2
      refine step_append_any _ rfl _ _ 55 rfl (w.heap.size + 1) 97 i0 _ 2 16 Try.underlying55 hi0 hz0 hz1 hz2 rfl (by decide) _ P.length _ rfl hid _ m (cL - 1) (celRows (legI ca cb)) rfl (by
        by_cases hc1 : cL = 1
        · left; omega
        · right
          rw [if_neg hc1]
          exact ⟨_, rfl, fun j u hju => U4.out.tail j u (by rw [HSM.out]; exact hju)⟩) (by rw [celRows_len, HLL.out]) (cel_one _) (by unfold maxLen; omega) (by omega) (by have h1 := I4.out.1.size; have h2 := HZ.out; omega) ?_
      intro vq wx hown hgrow hat
      have I5 : Hid (CNew wx (w.heap.size + 1) vq (alongTo (tat (turns ps ws)) (k + 1)) ∧ Below wA.heap.size wA wx) := by
        refine ⟨?_, I4.out.1.grown hgrow I4.out.1.size (fun q hq => by have h1 := ownC_ge hid q hq; have h2 := HZ.out; omega)⟩
        rw [HSt.out]
        exact CNew.app rfl HLL.out hown
      obtain ⟨qa, qc, rfl⟩ := ownC_slice hown
      have hHeld := QS.out _ I5.out.2
      refine hK.out _ _ hHeld (fun _ => ?_)
      clear hK K hown hgrow hat I4 U4
      refine wpAnyH_take (i := 17) (v := ?_) rfl (by kernel_rfl) (by kernel_rfl) (by kernel_rfl) (fun _ _ _ h => h) (Or.inl ⟨by rfl, ?_⟩) (by assumption) ?_
      rotate_left
      · intro w hSw; (try dsimp only at hSw); go_simp; try with_reducible rfl
      simp only [Act.put, List.setIfInBounds_toArray, List.set_cons_zero, List.set_cons_succ, List.getElem_toArray, List.getElem_cons_succ, List.getElem_cons_zero]
      clear hHeld QS
      refine wpAnyH_done (by kernel_rfl) ?_ _
      refine NoPanic.normal ?_
      have HLN : Hid ((alongTo (tat (turns ps ws)) (k + 1)).length = P.length + m) := by show _ = _; rw [HSt.out, List.length_append, HLL.out]
      go_wp2
      all_goals exact ⟨⟨k + 1, by omega, by omega, by omega, HLN.out.symm, I5⟩, by simp [intOf]; omega⟩
    · have HKN : Hid (alongTo (tat (turns ps ws)) k = cellsL ps ws) := by
        show _ = _
        unfold cellsL
        rw [show k = ws.length by omega]
      have hAk := HAL.out k hk
      rw [HKN.out] at hAk HI
      rw [HKN.out]
      have hz9 := HI.out.2.size
      by_cases h40 : (cellsL ps ws).length ≤ 40
      · have HE : Hid (cellsOkB ks ps ws = true ∧ cellsR ks ps ws = cellsL ps ws) := by
          have h : cellsOkB ks ps ws = true := by unfold cellsOkB; rw [HBB.out, HRR.out, decide_eq_true h40]; rfl
          exact ⟨h, by unfold cellsR; rw [h]; rfl⟩
        go_wp2
        go_ret2
        exact ⟨.slice a' (cellsL ps ws).length c', by rw [HE.out.1]; rfl, by rw [HE.out.2]; exact ownC_mono HI.out.1 (by omega), below_step HA.out HI.out.2⟩
      · have HE : Hid (cellsOkB ks ps ws = false ∧ cellsR ks ps ws = []) := by
          have h : cellsOkB ks ps ws = false := by unfold cellsOkB; rw [decide_eq_false h40]; simp
          exact ⟨h, by unfold cellsR; rw [h]; rfl⟩
        have HZ9 : Hid (CNew (wr.alloc (.cells #[] 97)) w.heap.size (.slice (some ⟨wr.heap.size, 0, none⟩) 0 0) [] ∧ Below w.heap.size w (wr.alloc (.cells #[] 97))) := ⟨⟨rfl, .inr ⟨wr.heap.size, 0, #[], rfl, (below_step HA.out HI.out.2).size, heap_newW wr _, Nat.le_refl _, Nat.zero_le _, rfl, rfl⟩⟩, below_step (below_step HA.out HI.out.2) ((Below.refl _ _).alloc (Nat.le_refl _) _)⟩
        go_wp2
        go_ret2
        exact ⟨.slice (some ⟨wr.heap.size, 0, none⟩) 0 0, by rw [HE.out.1]; rfl, by rw [HE.out.2]; exact HZ9.out.1, HZ9.out.2⟩
end Go.Proofs.Ytfjblenkcfdbiaa
