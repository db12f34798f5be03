
/-
  The cells along points: the program's.
-/
import Derived.Test.YtfjblenkcfdbiaaWay5
import Derived.Test.YtfjblenkcfdbiaaBase
namespace Go.Proofs.Ytfjblenkcfdbiaa
open Go.RowKit
set_option linter.unusedSimpArgs false
set_option linter.unusedVariables false

/-- The cells along a route. -/
def cellsL (ps : List Tri) (ws : List ByteArray) : List Cel := alongTo (tat (turns ps ws)) ws.length
def cellsOkB (ks ps : List Tri) (ws : List ByteArray) : Bool := ((kindsB ks && pointsB ps) && routeB ps ws) && decide ((cellsL ps ws).length ≤ 40)
/-- What PlanCells answers. -/
def cellsR (ks ps : List Tri) (ws : List ByteArray) : List Cel := bif cellsOkB ks ps ws then cellsL ps ws else []
theorem points_in {ps : List Tri} (h : pointsB ps = true) : ∀ i, i < ps.length → insideB (at' ps i) = true := fun i hi => by
  unfold pointsB at h
  rw [Bool.and_eq_true] at h
  have := allB_get h.2 i hi
  rw [Bool.and_eq_true] at this
  exact this.1
theorem celOf_in {ps : List Tri} {x : ByteArray} (h : pointsB ps = true) (hx : hasB ps x = true) : (celOf ps x).In := by
  unfold hasB at hx
  rw [Bool.and_eq_true] at hx
  have h1 := points_in h _ (of_decide_eq_true hx.1)
  unfold insideB inB at h1
  simp at h1
  exact ⟨⟨h1.1.1, h1.1.2⟩, h1.2.1, h1.2.2⟩
theorem route_all {ps : List Tri} {ws : List ByteArray} (h : routeB ps ws = true) : (2 ≤ ws.length ∧ ws.length ≤ 8) ∧ ∀ i, i < ws.length → hasB ps (wat ws i) = true := by
  unfold routeB at h
  rw [Bool.and_eq_true] at h
  refine ⟨by have := h.1; unfold inB at this; simp at this; omega, fun i hi => ?_⟩
  have := allB_get h.2 i hi
  unfold stepB at this
  rw [Bool.and_eq_true] at this
  exact this.1
theorem turns_in {ps : List Tri} {ws : List ByteArray} (hp : pointsB ps = true) (h : routeB ps ws = true) : ∀ c ∈ turns ps ws, c.In := fun c hc => by
  obtain ⟨x, hx, rfl⟩ := List.mem_map.1 hc
  obtain ⟨i, hi, rfl⟩ := List.getElem_of_mem hx
  have := (route_all h).2 i hi
  have e : wat ws i = ws[i] := by simp [wat, hi]
  rw [e] at this
  exact celOf_in hp this
theorem cellsL_len {ps : List Tri} {ws : List ByteArray} (hp : pointsB ps = true) (h : routeB ps ws = true) : (cellsL ps ws).length ≤ 121 := by
  have h1 := alongTo_len (turns_in hp h) ws.length (by unfold turns; rw [List.length_map]; exact Nat.le_refl _)
  have h2 := (route_all h).1
  unfold cellsL
  omega

set_option maxRecDepth 100000 in
set_option maxHeartbeats 3200000 in
theorem planCells_any (vk vp v : Value) (ks ps : List Tri) (ws : List ByteArray) (w : World) (hk : TrisAt w vk ks) (hp : TrisAt w vp ps) (nk : Names ks) (np : Names ps) (hst : StrsAt w v ws) :
    Calls Try.prog 25 #[.agg #[vk, vp], v] w fun e w' => ∃ u, e = .returned (.tuple #[u, .bool (cellsOkB ks ps ws)]) ∧ CNew w' w.heap.size u (cellsR ks ps ws) ∧ Below w.heap.size w w' := by
  have HB1 : Hid (Below w.heap.size w (w.alloc (.cells #[vk, vp] 31))) := (Below.refl _ _).alloc (Nat.le_refl _) _
  have GB : Hid (∀ wx : World, Below w.heap.size w wx → Calls Try.prog 11 #[.agg #[vk, vp]] wx fun e w' => e = .returned (.bool (kindsB ks && pointsB ps)) ∧ Below wx.heap.size wx w') := fun wx hx => baseOk_any vk vp ks ps wx (hk.keep hx) (hp.keep hx) nk np
  have GR : Hid (∀ wx : World, Below w.heap.size w wx → Calls Try.prog 61 #[.agg #[vk, vp], v] wx fun e w' => e = .returned (.bool (routeB ps ws)) ∧ Below wx.heap.size wx w') := fun wx hx => routeFits_any vk vp v ps ws wx (hp.keep hx) (hst.keep hx)
  have GT : Hid (routeB ps ws = true → ∀ wx : World, Below w.heap.size w wx → Calls Try.prog 63 #[.agg #[vk, vp], v] wx fun e w' => ∃ u, e = .returned u ∧ CNew w' wx.heap.size u (turns ps ws) ∧ Below wx.heap.size wx w') := fun hr wx hx => cellsOfPoints_any vk vp v ps ws wx (hp.keep hx) (hst.keep hx) (route_all hr).1.2 (route_all hr).2
  have p0 : (w.alloc (.cells #[vk, vp] 31)).cell? ⟨w.heap.size, 0, none⟩ = some vk := by simp [go_sem]
  have p1 : (w.alloc (.cells #[vk, vp] 31)).cell? ⟨w.heap.size, 1, none⟩ = some vp := by simp [go_sem]
  obtain ⟨g, off, cap, rfl, hlc, hcm, -⟩ := hst
  clear hk hp
  go_enter Try.func25, Try.ntmps25
  go_wp2_with fail
  generalize (w.alloc (.cells #[vk, vp] 31)) = w1 at *
  have Q0 : Hid (∀ wx : World, Below w1.heap.size w1 wx → wx.cell? ⟨w.heap.size, 0, none⟩ = some vk ∧ wx.cell? ⟨w.heap.size, 1, none⟩ = some vp) := fun wx hx => ⟨cell_keep hx (Nat.le_refl _) p0, cell_keep hx (Nat.le_refl _) p1⟩
  refine (GB.out _ HB1.out).mono ?_
  rintro e w2 ⟨rfl, hb2⟩
  have B2 : Hid (Below w1.heap.size w1 w2) := hb2
  clear hb2 p0 p1
  obtain ⟨p0, p1⟩ := Q0.out _ B2.out
  cases hbb : (kindsB ks && pointsB ps)
  · have HE : Hid (cellsOkB ks ps ws = false ∧ cellsR ks ps ws = []) := by
      have h : cellsOkB ks ps ws = false := by unfold cellsOkB; rw [hbb]; rfl
      exact ⟨h, by unfold cellsR; rw [h]; rfl⟩
    clear hbb
    go_wp2
    go_ret2
    exact ⟨.slice none 0 0, by rw [HE.out.1]; rfl, by rw [HE.out.2]; exact ⟨rfl, .inl ⟨rfl, rfl⟩⟩, below_step HB1.out B2.out⟩
  · have HBB : Hid ((kindsB ks && pointsB ps) = true) := hbb
    clear hbb
    go_wp2_with fail
    refine (GR.out _ (below_step HB1.out B2.out)).mono ?_
    rintro e w3 ⟨rfl, hb3⟩
    have B3 : Hid (Below w1.heap.size w1 w3) := below_step B2.out hb3
    clear hb3 p0 p1 B2
    obtain ⟨p0, p1⟩ := Q0.out _ B3.out
    cases hrr : routeB ps ws
    · have HE : Hid (cellsOkB ks ps ws = false ∧ cellsR ks ps ws = []) := by
        have h : cellsOkB ks ps ws = false := by unfold cellsOkB; rw [HBB.out, hrr]; rfl
        exact ⟨h, by unfold cellsR; rw [h]; rfl⟩
      clear hrr
      go_wp2
      go_ret2
      exact ⟨.slice none 0 0, by rw [HE.out.1]; rfl, by rw [HE.out.2]; exact ⟨rfl, .inl ⟨rfl, rfl⟩⟩, below_step HB1.out B3.out⟩
    · have HRR : Hid (routeB ps ws = true) := hrr
      clear hrr
      have hpp : pointsB ps = true := by have := HBB.out; rw [Bool.and_eq_true] at this; exact this.2
      have HIN : Hid (∀ c ∈ turns ps ws, c.In) := turns_in hpp HRR.out
      have hlen := cellsL_len hpp HRR.out
      have HTL : Hid ((turns ps ws).length = ws.length) := by show _ = _; unfold turns; rw [List.length_map]
      have HW8 : Hid (ws.length ≤ 8) := (route_all HRR.out).1.2
      go_wp2_with fail
      refine (GT.out HRR.out _ (below_step HB1.out B3.out)).mono ?_
      rintro e w4 ⟨u, rfl, hu, hb4⟩
      obtain ⟨a4, c4, rfl⟩ := ownC_slice hu
      have U4 : Hid (CAt w4 (.slice a4 (turns ps ws).length c4) (turns ps ws)) := hu.at
      have B4 : Hid (Below w1.heap.size w1 w4) := below_step B3.out hb4
      clear hb4 p0 p1 B3 hu
      go_wp2_with fail
      refine (cellsAlong_any _ (turns ps ws) _ U4.out (by rw [HTL.out]; exact HW8.out) HIN.out).mono ?_
      rw [HTL.out]
      rintro e w5 ⟨u, rfl, hu, hb5⟩
      have hu' : CNew w5 w4.heap.size u (cellsL ps ws) := hu
      obtain ⟨a5, c5, rfl⟩ := ownC_slice hu'
      have U5 : Hid (CNew w5 w.heap.size (.slice a5 (cellsL ps ws).length c5) (cellsL ps ws)) := ownC_mono hu' (below_step HB1.out B4.out).size
      have B5 : Hid (Below w1.heap.size w1 w5) := below_step B4.out hb5
      clear hb5 B4 hu hu' U4
      by_cases h40 : (cellsL ps ws).length ≤ 40
      · have HE : Hid (cellsOkB ks ps ws = true ∧ cellsR ks ps ws = cellsL ps ws) := by
          have h : cellsOkB ks ps ws = true := by unfold cellsOkB; rw [HBB.out, HRR.out, decide_eq_true h40]; rfl
          exact ⟨h, by unfold cellsR; rw [h]; rfl⟩
        go_wp2
        go_ret2
        exact ⟨.slice a5 (cellsL ps ws).length c5, by rw [HE.out.1]; rfl, by rw [HE.out.2]; exact U5.out, below_step HB1.out B5.out⟩
      · have HE : Hid (cellsOkB ks ps ws = false ∧ cellsR ks ps ws = []) := by
          have h : cellsOkB ks ps ws = false := by unfold cellsOkB; rw [decide_eq_false h40]; simp
          exact ⟨h, by unfold cellsR; rw [h]; rfl⟩
        go_wp2
        go_ret2
        exact ⟨.slice none 0 0, by rw [HE.out.1]; rfl, by rw [HE.out.2]; exact ⟨rfl, .inl ⟨rfl, rfl⟩⟩, below_step HB1.out B5.out⟩
end Go.Proofs.Ytfjblenkcfdbiaa
