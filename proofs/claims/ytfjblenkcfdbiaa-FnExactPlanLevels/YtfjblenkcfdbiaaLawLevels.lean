
/-
  The law FnExactPlanLevels answers true at every two numbers, and turns nothing that was there.
-/
import Derived.Test.YtfjblenkcfdbiaaLev0
import Derived.Test.YtfjblenkcfdbiaaLev1
namespace Go.Proofs.Ytfjblenkcfdbiaa.Lv
open Go.RowKit
set_option linter.unusedSimpArgs false
set_option linter.unusedVariables false

set_option maxRecDepth 100000 in
set_option maxHeartbeats 6400000 in
theorem lawLevels_walk (n l : Int) (w : World) :
    Calls Try.prog 7 #[.int .i64 n, .int .i64 l] w fun e w' => e = .returned (.bool true) ∧ Below w.heap.size w w' := by
  have hlen := levelsL_len n l
  obtain ⟨L, hL⟩ : ∃ L, L = levelsL n l := ⟨_, rfl⟩
  have GS : Hid (∀ wx : World, Calls Try.prog 32 #[.int .i64 n, .int .i64 l] wx fun e w' => ∃ v, e = .returned v ∧ INew w' wx.heap.size v L ∧ Below wx.heap.size wx w') := fun wx => by rw [hL]; exact specLevels_any n l wx
  have GI : Hid (∀ wx : World, Calls Try.prog 33 #[.int .i64 n, .int .i64 l] wx fun e w' => ∃ v, e = .returned v ∧ INew w' wx.heap.size v L ∧ Below wx.heap.size wx w') := fun wx => by rw [hL]; exact planLevels_any n l wx
  rw [← hL] at hlen
  clear hL
  go_enter Try.func7, Try.ntmps7
  go_wp2_with fail
  refine (GS.out _).mono ?_
  rintro e w1 ⟨v0, rfl, h0, b1⟩
  obtain ⟨a0, c0, rfl⟩ := own_slice h0
  have H1 : Hid (INew w1 w.heap.size (.slice a0 L.length c0) L ∧ Below w.heap.size w w1) := ⟨h0, b1⟩
  clear h0 b1
  go_wp2_with fail
  refine (GI.out _).mono ?_
  rintro e w2 ⟨v1, rfl, h1, b2⟩
  obtain ⟨a1, c1, rfl⟩ := own_slice h1
  have H2 : Hid ((INew w2 w.heap.size (.slice a0 L.length c0) L ∧ INew w2 w1.heap.size (.slice a1 L.length c1) L) ∧ Below w.heap.size w w2 ∧ w.heap.size ≤ w1.heap.size ∧ ∀ q, (Value.slice a0 L.length c0).ownBlock = some q → q < w1.heap.size) := ⟨⟨H1.out.1.keep b2, h1⟩, below_step H1.out.2 b2, H1.out.2.size, own_lt H1.out.1⟩
  clear h1 b2 H1
  go_wp2_with fail
  refine (eqInts_any _ _ L _ H2.out.1.2.at H2.out.1.1.at).mono ?_
  rintro e w3 ⟨rfl, b3⟩
  have H3 : Hid ((INew w3 w.heap.size (.slice a0 L.length c0) L ∧ INew w3 w1.heap.size (.slice a1 L.length c1) L) ∧ Below w.heap.size w w3 ∧ w.heap.size ≤ w1.heap.size ∧ ∀ q, (Value.slice a0 L.length c0).ownBlock = some q → q < w1.heap.size) := ⟨⟨H2.out.1.1.keep b3, H2.out.1.2.keep b3⟩, below_step H2.out.2.1 b3, H2.out.2.2⟩
  clear b3 H2
  go_wp2_with fail
  refine (markIntG_any _ L _ 1 _ H3.out.1.2 (by omega) (by omega)).mono ?_
  rintro e w4 ⟨rfl, hM, g4⟩
  have H4 : Hid ((INew w4 w.heap.size (.slice a0 L.length c0) L ∧ RowM w4 (.slice a1 L.length c1) L.length (mkI 1)) ∧ Below w.heap.size w w4) := by
    refine ⟨⟨own_far H3.out.1.1 g4 (fun q hq e => ?_), hM⟩, H3.out.2.1.grown g4 H3.out.2.1.size (fun q hq => Nat.le_trans H3.out.2.2.1 (own_ge H3.out.1.2 q hq))⟩
    have x1 := H3.out.2.2.2 q hq
    have x2 := own_ge H3.out.1.2 q e.symm
    omega
  clear hM g4 H3
  go_wp2_with fail
  refine (heldIntG_any _ L.length 1 _ H4.out.1.2 (by omega) (by omega)).mono ?_
  rintro e w5 ⟨rfl, b5⟩
  have H5 : Hid ((INew w5 w.heap.size (.slice a0 L.length c0) L ∧ RowM w5 (.slice a1 L.length c1) L.length (mkI 1)) ∧ Below w.heap.size w w5) := ⟨⟨H4.out.1.1.keep b5, H4.out.1.2.keep b5⟩, below_step H4.out.2 b5⟩
  clear b5 H4
  go_wp2_with fail
  refine (GI.out _).mono ?_
  rintro e w6 ⟨v6, rfl, h6, b6⟩
  obtain ⟨a6, c6, rfl⟩ := own_slice h6
  have H6 : Hid ((INew w6 w.heap.size (.slice a0 L.length c0) L ∧ RowM w6 (.slice a1 L.length c1) L.length (mkI 1)) ∧ Below w.heap.size w w6 ∧ IAt w6 (.slice a6 L.length c6) L) := ⟨⟨H5.out.1.1.keep b6, H5.out.1.2.keep b6⟩, below_step H5.out.2 b6, h6.at⟩
  clear b6 h6 H5
  go_wp2_with fail
  refine (eqInts_any _ _ L _ H6.out.2.2 H6.out.1.1.at).mono ?_
  rintro e w7 ⟨rfl, b7⟩
  have H7 : Hid (RowM w7 (.slice a1 L.length c1) L.length (mkI 1) ∧ Below w.heap.size w w7) := ⟨H6.out.1.2.keep b7, below_step H6.out.2.1 b7⟩
  clear b7 H6
  go_wp2_with fail
  refine (heldIntG_any _ L.length 1 _ H7.out.1 (by omega) (by omega)).mono ?_
  rintro e w8 ⟨rfl, b8⟩
  have H8 : Hid (Below w.heap.size w w8) := below_step H7.out.2 b8
  clear b8 H7
  go_wp2
  go_ret
  exact ⟨rfl, H8.out⟩
end Go.Proofs.Ytfjblenkcfdbiaa.Lv
