
/-
  The law FnExactPlanCells answers true at every base and list of texts, and turns nothing that was there.
-/
import Derived.Test.YtfjblenkcfdbiaaWay10
import Derived.Test.YtfjblenkcfdbiaaCel1
import Derived.Test.YtfjblenkcfdbiaaCel2
namespace Go.Proofs.Ytfjblenkcfdbiaa
open Go.RowKit
set_option linter.unusedSimpArgs false
set_option linter.unusedVariables false

theorem cellsR_len (ks ps : List Tri) (ws : List ByteArray) : (cellsR ks ps ws).length ≤ 40 := by
  unfold cellsR
  cases h : cellsOkB ks ps ws
  · simp
  · unfold cellsOkB at h
    rw [Bool.and_eq_true] at h
    exact of_decide_eq_true h.2
theorem ownC_same {W W' : World} {base : Nat} {e : TypeId} {size : Nat} {v : Value} {n : Nat} {xs : List Value} (h : W.ownsRow base e size v n xs) (hs : ∀ k, v.ownBlock = some k → k < W.heap.size → W'.heap[k]? = W.heap[k]?) : W'.ownsRow base e size v n xs := by
  refine ⟨h.1, ?_⟩
  rcases h.2 with h2 | ⟨g, cap, cur, hv, hb, hc, rest⟩
  · exact .inl h2
  · exact .inr ⟨g, cap, cur, hv, hb, (hs g (by rw [hv]; rfl) (Array.getElem?_eq_some_iff.1 hc).1).trans hc, rest⟩
theorem szT_small {l : List Tri} {n : Nat} (h : szTris l ≤ n) : l.length ≤ n := by unfold szTris at h; omega
set_option maxRecDepth 100000 in
set_option maxHeartbeats 25600000 in
theorem lawCells_walk (vk vp vr : Value) (ks ps : List Tri) (ws : List ByteArray) (w : World) (hk : TrisAt w vk ks) (hp : TrisAt w vp ps) (nk : Names ks) (np : Names ps) (hr : SArg w vr ws) (nr : SNames ws) :
    Calls Try.prog 6 #[.agg #[vk, vp], vr] w fun e w' => e = .returned (.bool true) ∧ Below w.heap.size w w' := by
  have HK : Hid (TrisAt w vk ks) := hk
  have HP : Hid (TrisAt w vp ps) := hp
  have HR : Hid (SArg w vr ws) := hr
  have NN : Hid (Names ks ∧ Names ps ∧ SNames ws) := ⟨nk, np, nr⟩
  obtain ⟨ak, ck, rfl, -, -, -⟩ := hk
  obtain ⟨ap, cp, rfl, -, -, -⟩ := hp
  obtain ⟨ar, cr, rfl, -, -, -⟩ := hr
  clear nk np nr
  have L0 : Hid (Below w.heap.size w (w.alloc (.cells #[.slice ak ks.length ck, .slice ap ps.length cp] 25))) := (Below.refl _ _).alloc (Nat.le_refl _) _
  have QB : Hid (∀ wx : World, Below (w.alloc (.cells #[.slice ak ks.length ck, .slice ap ps.length cp] 25)).heap.size (w.alloc (.cells #[.slice ak ks.length ck, .slice ap ps.length cp] 25)) wx → wx.cell? ⟨w.heap.size, 0, none⟩ = some (.slice ak ks.length ck) ∧ wx.cell? ⟨w.heap.size, 1, none⟩ = some (.slice ap ps.length cp)) := fun wx hx => ⟨cell_keep hx (Nat.le_refl _) (by simp [go_sem]), cell_keep hx (Nat.le_refl _) (by simp [go_sem])⟩
  obtain ⟨q0, q1⟩ := QB.out _ (Below.refl _ _)
  go_enter Try.func6, Try.ntmps6
  go_wp2_with fail
  generalize (w.alloc (.cells #[.slice ak ks.length ck, .slice ap ps.length cp] 25)) = w0 at *
  refine (szBase_any _ _ ks ps _ _ (HK.out.keep L0.out) (HP.out.keep L0.out) NN.out.1 NN.out.2.1 (by omega) (by omega)).mono ?_
  rintro e w1 ⟨rfl, hb1⟩
  have B1 : Hid (Below w0.heap.size w0 w1) := hb1
  clear hb1 q0 q1
  by_cases hsz : ((szTris ks + szTris ps : Nat) : Int) ≤ 1048576
  case neg =>
    rw [szR_neg hsz]
    go_wp2
    go_ret
    exact ⟨rfl, below_step L0.out B1.out⟩
  rw [szR_pos hsz]
  have hszN : szTris ks + szTris ps ≤ 1048576 := by omega
  have hge : 0 ≤ 1048576 - ((szTris ks + szTris ps : Nat) : Int) := by omega
  have hle : 1048576 - ((szTris ks + szTris ps : Nat) : Int) ≤ 1048576 := by omega
  generalize 1048576 - ((szTris ks + szTris ps : Nat) : Int) = r at *
  clear hsz
  go_wp2_with fail
  refine (szStrs_any _ ws _ _ (HR.out.keep (below_step L0.out B1.out)) NN.out.2.2 hge hle).mono ?_
  rintro e w2 ⟨rfl, hb2⟩
  have B2 : Hid (Below w0.heap.size w0 w2) := below_step B1.out hb2
  clear hb2 B1
  by_cases hsz2 : ((szStrs ws : Nat) : Int) ≤ r
  case neg =>
    rw [szR_neg hsz2]
    go_wp2
    go_ret
    exact ⟨rfl, below_step L0.out B2.out⟩
  rw [szR_pos hsz2]
  have hwl : ws.length ≤ 1048576 := szStrs_small (by omega)
  have hkl : ks.length ≤ 1048576 := szT_small (by omega)
  have hpl : ps.length ≤ 1048576 := szT_small (by omega)
  have hge2 : 0 ≤ r - (szStrs ws : Int) := by omega
  generalize r - (szStrs ws : Int) = r2 at *
  clear hsz2 hge hle hszN
  have hm : ws.length ≤ maxLen := by unfold maxLen; omega
  have GB : Hid (∀ wx : World, Below w0.heap.size w0 wx → Calls Try.prog 10 #[.agg #[.slice ak ks.length ck, .slice ap ps.length cp]] wx fun e w' => ∃ uk up, e = .returned (.agg #[uk, up]) ∧ TrisOwn (wx.heap.size + 3) w' uk ks ∧ TrisOwn (wx.heap.size + 3) w' up ps ∧ Below wx.heap.size wx w') := fun wx hx => toBase_own _ _ ks ps wx (HK.out.keep (below_step L0.out hx)) (HP.out.keep (below_step L0.out hx)) hkl hpl
  have GT : Hid (∀ wx : World, Below w0.heap.size w0 wx → Calls Try.prog 24 #[.slice ar ws.length cr] wx fun e w' => e = .returned (.slice (some ⟨wx.heap.size, 0, none⟩) ws.length ws.length) ∧ FilledL wx w' wx.heap.size ws.length 1 (ws.map strRow)) := fun wx hx => toStrs_own _ ws wx (HR.out.keep (below_step L0.out hx)) hwl
  have GS : Hid (∀ (x y z : Value) (wx : World), TrisAt wx x ks → TrisAt wx y ps → StrsAt wx z ws → Calls Try.prog 23 #[.agg #[x, y], z] wx fun e w' => ∃ u, e = .returned (.tuple #[u, .bool (cellsOkB ks ps ws)]) ∧ CNew w' wx.heap.size u (cellsR ks ps ws) ∧ Below wx.heap.size wx w') := fun x y z wx h1 h2 h3 => specCells_any x y z ks ps ws wx h1 h2 NN.out.1 NN.out.2.1 h3
  have GI : Hid (∀ (x y z : Value) (wx : World), TrisAt wx x ks → TrisAt wx y ps → StrsAt wx z ws → Calls Try.prog 25 #[.agg #[x, y], z] wx fun e w' => ∃ u, e = .returned (.tuple #[u, .bool (cellsOkB ks ps ws)]) ∧ CNew w' wx.heap.size u (cellsR ks ps ws) ∧ Below wx.heap.size wx w') := fun x y z wx h1 h2 h3 => planCells_any x y z ks ps ws wx h1 h2 NN.out.1 NN.out.2.1 h3
  have HSL : Hid (∀ (wx : World) (b : Nat), HeldL wx b ws.length 1 (ws.map strRow) → StrsAt wx (.slice (some ⟨b, 0, none⟩) ws.length ws.length) ws) := fun wx b h => h.strs rfl hm
  have hRl := cellsR_len ks ps ws
  generalize cellsR ks ps ws = R at *
  generalize cellsOkB ks ps ws = bo at *
  have hbo : (bo != bo) = false := by simp
  clear HK HP HR NN
  obtain ⟨q0, q1⟩ := QB.out _ B2.out
  go_wp2_with fail
  refine (GB.out _ B2.out).mono ?_
  rintro e w3 ⟨kb, pb, rfl, hTk, hTp, hb3⟩
  have B3 : Hid (Below w0.heap.size w0 w3) := below_step B2.out hb3
  have T3 : Hid (TrisAt w3 kb ks ∧ TrisAt w3 pb ps) := ⟨hTk.at hkl, hTp.at hpl⟩
  clear hTk hTp hb3 B2 q0 q1
  go_wp2_with fail
  refine (GT.out _ B3.out).mono ?_
  rintro e w4 ⟨rfl, hF4⟩
  have B4 : Hid (Below w0.heap.size w0 w4) := below_step B3.out hF4.below
  have T4 : Hid ((TrisAt w4 kb ks ∧ TrisAt w4 pb ps) ∧ StrsAt w4 (.slice (some ⟨w3.heap.size, 0, none⟩) ws.length ws.length) ws) := ⟨⟨T3.out.1.keep hF4.below, T3.out.2.keep hF4.below⟩, HSL.out _ _ hF4.held⟩
  clear hF4 T3 B3
  go_wp2_with fail
  refine (GS.out _ _ _ _ T4.out.1.1 T4.out.1.2 T4.out.2).mono ?_
  rintro e wS ⟨u0, rfl, hu0, hbS⟩
  obtain ⟨a0, c0, rfl⟩ := ownC_slice hu0
  have BS : Hid (Below w0.heap.size w0 wS) := below_step B4.out hbS
  have U0 : Hid (∀ wx : World, Below wS.heap.size wS wx → CAt wx (.slice a0 R.length c0) R) := fun wx hx => hu0.at.keep hx
  clear hu0 hbS T4 B4
  obtain ⟨q0, q1⟩ := QB.out _ BS.out
  go_wp2_with fail
  refine (GB.out _ BS.out).mono ?_
  rintro e w6 ⟨kv, pv, rfl, hTk, hTp, hb6⟩
  obtain ⟨bk, hlk, rfl, hHk⟩ := hTk
  obtain ⟨bp, hlp, rfl, hHp⟩ := hTp
  have hal : Below w6.heap.size w6 (w6.alloc (.cells #[.slice (some ⟨bk, 0, none⟩) ks.length ks.length, .slice (some ⟨bp, 0, none⟩) ps.length ps.length] 31)) := (Below.refl _ _).alloc (Nat.le_refl _) _
  have S7 : Hid (Below wS.heap.size wS (w6.alloc (.cells #[.slice (some ⟨bk, 0, none⟩) ks.length ks.length, .slice (some ⟨bp, 0, none⟩) ps.length ps.length] 31))) := below_step hb6 hal
  have X7 : Hid ((HeldL (w6.alloc (.cells #[.slice (some ⟨bk, 0, none⟩) ks.length ks.length, .slice (some ⟨bp, 0, none⟩) ps.length ps.length] 31)) bk ks.length 3 (ks.map triRow) ∧ HeldL (w6.alloc (.cells #[.slice (some ⟨bk, 0, none⟩) ks.length ks.length, .slice (some ⟨bp, 0, none⟩) ps.length ps.length] 31)) bp ps.length 3 (ps.map triRow)) ∧ (w6.alloc (.cells #[.slice (some ⟨bk, 0, none⟩) ks.length ks.length, .slice (some ⟨bp, 0, none⟩) ps.length ps.length] 31)).heap[w6.heap.size]? = some (.cells #[.slice (some ⟨bk, 0, none⟩) ks.length ks.length, .slice (some ⟨bp, 0, none⟩) ps.length ps.length] 31 (0, 0))) := ⟨⟨hHk.keep hal, hHp.keep hal⟩, heap_newW w6 _⟩
  have N7 : Hid ((wS.heap.size ≤ bk ∧ wS.heap.size ≤ bp) ∧ bk < w6.heap.size ∧ bp < w6.heap.size) := ⟨⟨by omega, by omega⟩, hHk.big, hHp.big⟩
  clear hlk hlp hHk hHp hb6 hal q0 q1
  go_wp2_with fail
  generalize (w6.alloc (.cells #[.slice (some ⟨bk, 0, none⟩) ks.length ks.length, .slice (some ⟨bp, 0, none⟩) ps.length ps.length] 31)) = w7 at *
  generalize w6.heap.size = XB at *
  have hXB : XB < w7.heap.size := lt_of_block X7.out.2
  refine (GT.out _ (below_step BS.out S7.out)).mono ?_
  rintro e w8 ⟨rfl, hF8⟩
  have hbig8 := hF8.big
  have S8 : Hid (Below wS.heap.size wS w8) := below_step S7.out hF8.below
  have X8 : Hid ((HeldL w8 bk ks.length 3 (ks.map triRow) ∧ HeldL w8 bp ps.length 3 (ps.map triRow)) ∧ w8.heap[XB]? = some (.cells #[.slice (some ⟨bk, 0, none⟩) ks.length ks.length, .slice (some ⟨bp, 0, none⟩) ps.length ps.length] 31 (0, 0))) := ⟨⟨X7.out.1.1.keep hF8.below, X7.out.1.2.keep hF8.below⟩, below_block hF8.below X7.out.2⟩
  have Y8 : Hid (HeldL w8 w7.heap.size ws.length 1 (ws.map strRow)) := hF8.held
  have N8 : Hid (wS.heap.size ≤ w7.heap.size ∧ w7.heap.size < w8.heap.size) := ⟨S7.out.size, hbig8⟩
  have BW : Hid (Below w0.heap.size w0 w8 ∧ Below wS.heap.size wS w8) := ⟨below_step BS.out S8.out, S8.out⟩
  clear hF8 X7 S7 hbig8
  obtain ⟨x0, x1⟩ := cell_two X8.out.2
  have AB : Hid (∀ wx : World, HeldL wx bk ks.length 3 (ks.map triRow) → HeldL wx bp ps.length 3 (ps.map triRow) → TrisAt wx (.slice (some ⟨bk, 0, none⟩) ks.length ks.length) ks ∧ TrisAt wx (.slice (some ⟨bp, 0, none⟩) ps.length ps.length) ps) := fun wx h1 h2 => ⟨h1.tris rfl _ (Nat.le_refl _) (by unfold maxLen; omega), h2.tris rfl _ (Nat.le_refl _) (by unfold maxLen; omega)⟩
  go_wp2_with fail
  refine (GI.out _ _ _ _ (AB.out _ X8.out.1.1 X8.out.1.2).1 (AB.out _ X8.out.1.1 X8.out.1.2).2 (HSL.out _ _ Y8.out)).mono ?_
  rintro e w9 ⟨u1, rfl, hu1, hb9⟩
  obtain ⟨a1, c1, rfl⟩ := ownC_slice hu1
  have I9 : Hid (Below w8.heap.size w8 w9 ∧ CNew w9 w8.heap.size (.slice a1 R.length c1) R) := ⟨hb9, hu1⟩
  clear hu1 hb9 S8 x0 x1
  go_wp2_with fail
  refine (eqCells_any _ _ R _ I9.out.2.at (U0.out _ (below_step BW.out.2 I9.out.1))).mono ?_
  rintro e w10 ⟨rfl, hb10⟩
  have I10 : Hid (Below w8.heap.size w8 w10 ∧ CNew w10 w8.heap.size (.slice a1 R.length c1) R) := ⟨below_step I9.out.1 hb10, ownC_keep I9.out.2 hb10⟩
  clear hb10 I9
  have QS : Hid (∀ wx : World, Below w8.heap.size w8 wx → (wx.cell? ⟨w.heap.size, 0, none⟩ = some (.slice ak ks.length ck) ∧ wx.cell? ⟨w.heap.size, 1, none⟩ = some (.slice ap ps.length cp)) ∧ wx.cell? ⟨XB, 0, none⟩ = some (.slice (some ⟨bk, 0, none⟩) ks.length ks.length) ∧ wx.cell? ⟨XB, 1, none⟩ = some (.slice (some ⟨bp, 0, none⟩) ps.length ps.length)) := fun wx hx => ⟨QB.out _ (below_step BW.out.1 hx), cell_two (below_block hx X8.out.2)⟩
  go_wp2_with fail
  refine wp_region_noPanic ?_
  refine wp_region_held_drew (S := fun wx => (wx.cell? ⟨w.heap.size, 0, none⟩ = some (.slice ak ks.length ck) ∧ wx.cell? ⟨w.heap.size, 1, none⟩ = some (.slice ap ps.length cp)) ∧ wx.cell? ⟨XB, 0, none⟩ = some (.slice (some ⟨bk, 0, none⟩) ks.length ks.length) ∧ wx.cell? ⟨XB, 1, none⟩ = some (.slice (some ⟨bp, 0, none⟩) ps.length ps.length)) (by kernel_rfl) ?_ (fun hHeld => ?_)
  · exact QS.out _ (below_step I10.out.1 (Below.refl _ _).drew)
  have I11 : Hid (Below w8.heap.size w8 w10.drew ∧ CNew w10.drew w8.heap.size (.slice a1 R.length c1) R) := ⟨below_step I10.out.1 (Below.refl _ _).drew, ownC_keep I10.out.2 (Below.refl _ _).drew⟩
  clear I10
  generalize w10.drew = w11 at *
  refine wpAnyH_take (i := 0) (v := ?_) rfl (by kernel_rfl) (by kernel_rfl) (by kernel_rfl) (fun _ _ _ h => h) (Or.inl ⟨by rfl, ?_⟩) (by assumption) ?_
  rotate_left
  · intro w hSw; (try dsimp only at hSw); go_simp; try with_reducible rfl
  simp only [Act.put, List.setIfInBounds_toArray, List.set_cons_zero, List.set_cons_succ, List.getElem_toArray, List.getElem_cons_succ, List.getElem_cons_zero]
  refine wpAnyH_take (i := 1) (v := ?_) rfl (by kernel_rfl) (by kernel_rfl) (by kernel_rfl) (fun _ _ _ h => h) (Or.inl ⟨by rfl, ?_⟩) (by assumption) ?_
  rotate_left
  · intro w hSw; (try dsimp only at hSw); go_simp; try with_reducible rfl
  simp only [Act.put, List.setIfInBounds_toArray, List.set_cons_zero, List.set_cons_succ, List.getElem_toArray, List.getElem_cons_succ, List.getElem_cons_zero]
  clear hHeld
  refine wpAnyH_ready (rs := [2]) (by kernel_rfl) (by simp) ?_
  refine AllReadyH.cons rfl (fun K hK => ?_) AllReadyH.nil
  go_simp
  refine (GB.out _ (below_step BW.out.1 I11.out.1)).mono ?_
  rintro e w12 ⟨kz, pz, rfl, hTk, hTp, hbz⟩
  have I12 : Hid (Below w8.heap.size w8 w12 ∧ CNew w12 w8.heap.size (.slice a1 R.length c1) R) := ⟨below_step I11.out.1 hbz, ownC_keep I11.out.2 hbz⟩
  have Z12 : Hid (TrisAt w12 kz ks ∧ TrisAt w12 pz ps) := ⟨hTk.at hkl, hTp.at hpl⟩
  refine hK.out _ _ (QS.out _ I12.out.1) (fun _ => ?_)
  clear hK K hbz hTk hTp I11
  refine wpAnyH_ready (rs := [3]) (by kernel_rfl) (by simp) ?_
  refine AllReadyH.cons rfl (fun K hK => ?_) AllReadyH.nil
  go_simp
  refine (eqBase_any _ _ _ _ ks ps _ (AB.out _ (X8.out.1.1.keep I12.out.1) (X8.out.1.2.keep I12.out.1)).1 (AB.out _ (X8.out.1.1.keep I12.out.1) (X8.out.1.2.keep I12.out.1)).2 Z12.out.1 Z12.out.2).mono ?_
  rintro e w13 ⟨rfl, hbz⟩
  have I13 : Hid (Below w8.heap.size w8 w13 ∧ CNew w13 w8.heap.size (.slice a1 R.length c1) R) := ⟨below_step I12.out.1 hbz, ownC_keep I12.out.2 hbz⟩
  have hHeld := QS.out _ I13.out.1
  refine hK.out _ _ hHeld (fun _ => ?_)
  clear hK K hbz I12 Z12
  refine wpAnyH_take (i := 4) (v := ?_) rfl (by kernel_rfl) (by kernel_rfl) (by kernel_rfl) (fun _ _ _ h => h) (Or.inl ⟨by rfl, ?_⟩) (by assumption) ?_
  rotate_left
  · intro w hSw; (try dsimp only at hSw); go_simp; try with_reducible rfl
  simp only [Act.put, List.setIfInBounds_toArray, List.set_cons_zero, List.set_cons_succ, List.getElem_toArray, List.getElem_cons_succ, List.getElem_cons_zero]
  clear hHeld
  refine wpAnyH_done (by kernel_rfl) ?_ _
  refine NoPanic.normal ?_
  go_wp2_with fail
  refine (GT.out _ (below_step BW.out.1 I13.out.1)).mono ?_
  rintro e w14 ⟨rfl, hF⟩
  have I14 : Hid (Below w8.heap.size w8 w14 ∧ CNew w14 w8.heap.size (.slice a1 R.length c1) R) := ⟨below_step I13.out.1 hF.below, ownC_keep I13.out.2 hF.below⟩
  have Z14 : Hid (SArg w14 (.slice (some ⟨w13.heap.size, 0, none⟩) ws.length ws.length) ws) := (HSL.out _ _ hF.held).arg
  clear hF I13
  go_wp2_with fail
  refine (eqStrs_any _ _ ws _ (HSL.out _ _ (Y8.out.keep I14.out.1)).arg Z14.out).mono ?_
  rintro e w15 ⟨rfl, hbz⟩
  have I15 : Hid (Below w8.heap.size w8 w15 ∧ CNew w15 w8.heap.size (.slice a1 R.length c1) R) := ⟨below_step I14.out.1 hbz, ownC_keep I14.out.2 hbz⟩
  clear hbz I14 Z14
  obtain ⟨⟨q0, q1⟩, x0, x1⟩ := QS.out _ I15.out.1
  have X15 : Hid ((HeldL w15 bk ks.length 3 (ks.map triRow) ∧ HeldL w15 bp ps.length 3 (ps.map triRow)) ∧ HeldL w15 w7.heap.size ws.length 1 (ws.map strRow)) := ⟨⟨X8.out.1.1.keep I15.out.1, X8.out.1.2.keep I15.out.1⟩, Y8.out.keep I15.out.1⟩
  have hz15 := I15.out.1.size
  have hzz := N8.out
  have hnn := N7.out
  have hS15 : wS.heap.size ≤ w15.heap.size := (below_step BW.out.2 I15.out.1).size
  have HSZ : Hid (wS.heap.size ≤ w15.heap.size ∧ w8.heap.size ≤ w15.heap.size) := ⟨hS15, hz15⟩
  go_wp2_with fail
  refine (markBase_any bk bp ks.length ps.length 1 wS.heap.size w7.heap.size _ X15.out.1.1.big X15.out.1.2.big X15.out.1.1.room X15.out.1.2.room hkl hpl (by omega) hnn.1.1 hnn.1.2 (by omega) (by omega) hS15).mono ?_
  clear hz15 hzz hnn hS15 q0 q1 x0 x1
  rintro e w16 ⟨rfl, hO, -⟩
  have I16 : Hid (Below wS.heap.size wS w16 ∧ CNew w16 w8.heap.size (.slice a1 R.length c1) R) := by
    refine ⟨(below_step BW.out.2 I15.out.1).trans hO.below, ?_⟩
    refine ownC_same I15.out.2 (fun q hq hl => hO.up q ?_ hl)
    have h1 := ownC_ge I15.out.2 q hq
    have h2 := N8.out.2
    omega
  have Y16 : Hid (w16.there w7.heap.size 0 ws.length ∧ w7.heap.size < w16.heap.size) := by
    have h := hO.stays _ _ _ X15.out.2.big X15.out.2.room
    rw [Nat.mul_one] at h
    exact ⟨h, Nat.lt_of_lt_of_le X15.out.2.big hO.below.size⟩
  clear hO X15 I15
  go_wp2_with fail
  refine (markStrs_any _ ws.length _ (1 + ks.length * 3 + ps.length * 3) _ Y16.out.2 Y16.out.1 hwl (by omega)).mono ?_
  rintro e w17 ⟨rfl, hg⟩
  have I17 : Hid (Below wS.heap.size wS w17 ∧ CNew w17 w8.heap.size (.slice a1 R.length c1) R) := by
    refine ⟨I16.out.1.grown hg I16.out.1.size (fun q e => by injection e with e; have := N8.out.1; omega), ownC_far I16.out.2 hg (fun q hq e => ?_)⟩
    have h1 := ownC_ge I16.out.2 q hq
    have h2 := N8.out.2
    injection e with e
    omega
  clear hg I16 Y16
  go_wp2_with fail
  refine (eqCells_any _ _ R _ I17.out.2.at (U0.out _ I17.out.1)).mono ?_
  rintro e w18 ⟨rfl, hbz⟩
  have I18 : Hid (Below wS.heap.size wS w18 ∧ CNew w18 w8.heap.size (.slice a1 R.length c1) R) := ⟨below_step I17.out.1 hbz, ownC_keep I17.out.2 hbz⟩
  clear hbz I17
  go_wp2_with fail
  refine (markCelG_any _ R _ 1 _ I18.out.2 (by omega) (by omega)).mono ?_
  rintro e w19 ⟨rfl, hM, hg⟩
  have I19 : Hid (Below wS.heap.size wS w19 ∧ CelM w19 (.slice a1 R.length c1) R.length 1) := ⟨I18.out.1.grown hg I18.out.1.size (fun q hq => by have h1 := ownC_ge I18.out.2 q hq; have h2 := BW.out.2.size; omega), hM⟩
  clear hM hg I18
  go_wp2_with fail
  refine (heldCelG_any _ R.length 1 _ I19.out.2 (by omega) (by omega)).mono ?_
  rintro e w20 ⟨rfl, hbz⟩
  have I20 : Hid (Below wS.heap.size wS w20 ∧ CelM w20 (.slice a1 R.length c1) R.length 1) := ⟨below_step I19.out.1 hbz, I19.out.2.keep hbz⟩
  clear hbz I19
  obtain ⟨q0, q1⟩ := QB.out _ (below_step BS.out I20.out.1)
  go_wp2_with fail
  refine (GB.out _ (below_step BS.out I20.out.1)).mono ?_
  rintro e w21 ⟨kz, pz, rfl, hTk, hTp, hbz⟩
  have I21 : Hid (Below wS.heap.size wS w21 ∧ CelM w21 (.slice a1 R.length c1) R.length 1) := ⟨below_step I20.out.1 hbz, I20.out.2.keep hbz⟩
  have Z21 : Hid (TrisAt w21 kz ks ∧ TrisAt w21 pz ps) := ⟨hTk.at hkl, hTp.at hpl⟩
  clear hbz I20 hTk hTp q0 q1
  go_wp2_with fail
  refine (GT.out _ (below_step BS.out I21.out.1)).mono ?_
  rintro e w22 ⟨rfl, hF⟩
  have I22 : Hid (Below wS.heap.size wS w22 ∧ CelM w22 (.slice a1 R.length c1) R.length 1) := ⟨below_step I21.out.1 hF.below, I21.out.2.keep hF.below⟩
  have Z22 : Hid ((TrisAt w22 kz ks ∧ TrisAt w22 pz ps) ∧ StrsAt w22 (.slice (some ⟨w21.heap.size, 0, none⟩) ws.length ws.length) ws) := ⟨⟨Z21.out.1.keep hF.below, Z21.out.2.keep hF.below⟩, HSL.out _ _ hF.held⟩
  clear hF I21 Z21
  go_wp2_with fail
  refine (GI.out _ _ _ _ Z22.out.1.1 Z22.out.1.2 Z22.out.2).mono ?_
  rintro e w23 ⟨u3, rfl, hu3, hbz⟩
  obtain ⟨a3, c3, rfl⟩ := ownC_slice hu3
  have I23 : Hid ((Below wS.heap.size wS w23 ∧ CelM w23 (.slice a1 R.length c1) R.length 1) ∧ CAt w23 (.slice a3 R.length c3) R) := ⟨⟨below_step I22.out.1 hbz, I22.out.2.keep hbz⟩, hu3.at⟩
  clear hbz hu3 I22 Z22
  go_wp2_with fail
  refine (eqCells_any _ _ R _ I23.out.2 (U0.out _ I23.out.1.1)).mono ?_
  rintro e w24 ⟨rfl, hbz⟩
  have I24 : Hid (Below wS.heap.size wS w24 ∧ CelM w24 (.slice a1 R.length c1) R.length 1) := ⟨below_step I23.out.1.1 hbz, I23.out.1.2.keep hbz⟩
  clear hbz I23
  go_wp2_with fail
  refine (heldCelG_any _ R.length 1 _ I24.out.2 (by omega) (by omega)).mono ?_
  rintro e w25 ⟨rfl, hbz⟩
  have I25 : Hid (Below wS.heap.size wS w25) := below_step I24.out.1 hbz
  clear hbz I24
  go_wp2
  go_ret
  exact ⟨rfl, below_step L0.out (below_step BS.out I25.out)⟩
end Go.Proofs.Ytfjblenkcfdbiaa
