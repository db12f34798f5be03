/-
  For the proof of takeall_holds: part 31 (LawAll).
-/
import Derived.Test.YtehpdbbkbdfobabGreatRowTakeAllJ30
namespace Go.Proofs.YtehpdbbkbdfobabGreat
open Go.RowKit
set_option linter.unusedSimpArgs false
set_option linter.unusedVariables false

theorem allR_small (ks ps : List Tri) (es : List Ent) (L : List Chg) (hS : SmB (ks, ps, es)) (hL : ∀ c ∈ L, c.f.size ≤ 1048576 ∧ c.v.size ≤ 1048576) : SmB (allR ks ps es L) := by
  unfold allR
  cases bookB ks ps es
  · exact ⟨⟨fun _ h => by simp at h, fun _ h => by simp at h, fun _ h => by simp at h⟩, ⟨by simp, by simp, by simp, fun _ h => by simp at h, fun _ h => by simp at h, fun _ h => by simp at h⟩, by simp [sumN]⟩
  · exact hS.steps hL
theorem allC_small (ks ps : List Tri) (es : List Ent) (L : List Chg) (h : L.length ≤ 1048576) : (allC ks ps es L).length ≤ 1048576 := by
  unfold allC
  cases bookB ks ps es
  · simp
  · show (codesBk (ks, ps, es) L).length ≤ 1048576
    rw [codesBk_len]; exact h
theorem Bxs.start1 (w : World) (A : Array Value) (T : TypeId) : Bxs w (w.alloc (.cells A T)) [(w.heap.size, A, T)] := by
  refine ⟨(Below.refl _ _).alloc (Nat.le_refl _) _, fun p hp => ?_⟩
  simp only [List.mem_cons, List.not_mem_nil, or_false] at hp
  subst hp
  exact heap_newF w _
theorem IntsNew.lt {w : World} {B : Nat} {v : Value} {l : List Int} (h : IntsNew w B v l) {w' : World} (hs : ∀ k, B ≤ k → k < w.heap.size → w'.heap[k]? = w.heap[k]?) : IntsNew w' B v l := ownsRow_sameM h (fun k hk hl => hs k (own_ge h k hk) hl)
theorem ntInt : NT 3 := ⟨by decide, by decide, by decide, by decide⟩
theorem ntBook : NT 39 := ⟨by decide, by decide, by decide, by decide⟩
theorem IntsNew.typed {w : World} {B : Nat} {v : Value} {l : List Int} (h : IntsNew w B v l) : ∀ j, v.ownBlock = some j → ∃ (C : Array Value) (T : TypeId), NT T ∧ w.heap[j]? = some (.cells C T (0, 0)) := by
  intro j hj
  rcases h.2 with ⟨rfl, _⟩ | ⟨g, cap, cur, rfl, _, hc, _⟩
  · cases hj
  · cases hj
    exact ⟨cur, 3, ntInt, hc⟩
theorem IntsNew.other {w w' : World} {B : Nat} {v : Value} {l : List Int} (h : IntsNew w B v l) (hs : ∀ (X : Nat) (C : Array Value) (T : TypeId), NT T → w.heap[X]? = some (.cells C T (0, 0)) → w'.heap[X]? = some (.cells C T (0, 0))) : IntsNew w' B v l :=
  ownsRow_sameM h (fun k hk _ => by
    obtain ⟨C, T, hT, hc⟩ := h.typed k hk
    rw [hc]
    exact hs k C T hT hc)
theorem IntsNew.keep {w w' : World} {B : Nat} {v : Value} {l : List Int} (h : IntsNew w B v l) (hb : Below w.heap.size w w') : IntsNew w' B v l := ownsRow_keep h hb

set_option maxRecDepth 100000 in
set_option maxHeartbeats 25600000 in
theorem lawAll_walk (vk vp ve vl : Value) (ks ps : List Tri) (es : List Ent) (L : List Chg) (w : World) (hA : BookAt w vk vp ve ks ps es) (hB : ChgsAt w vl L) (nA : BNames ks ps es) (nB : CNames L) :
    Calls Tryz.prog 6 #[.agg #[vk, vp, ve], vl] w fun e w' => e = .returned (.bool true) ∧ Below w.heap.size w w' := by
  have HA : Hid (BookAt w vk vp ve ks ps es) := hA
  have HB : Hid (ChgsAt w vl L) := hB
  have NN : Hid (BNames ks ps es ∧ CNames L) := ⟨nA, nB⟩
  obtain ⟨⟨ak, ck, rfl, -, -, -⟩, ⟨ap, cp, rfl, -, -, -⟩, ⟨ae, ce, rfl, -, -, -⟩⟩ := hA
  obtain ⟨al, cl, rfl, -, -, -⟩ := hB
  clear nA nB
  have L0 : Hid (Bxs w _ [(w.heap.size, #[.slice ak ks.length ck, .slice ap ps.length cp, .slice ae es.length ce], 28)]) := Bxs.start1 w #[.slice ak ks.length ck, .slice ap ps.length cp, .slice ae es.length ce] 28
  go_enter Tryz.func6, Tryz.ntmps6
  go_wp2_with fail
  refine (szBook_any _ _ _ ks ps es _ _ (HA.out.keep L0.out.below) NN.out.1 (by omega) (by omega)).mono ?_
  rintro e w1 ⟨rfl, hb1⟩
  have L1 : Hid (Bxs w w1 [(w.heap.size, #[.slice ak ks.length ck, .slice ap ps.length cp, .slice ae es.length ce], 28)]) := L0.out.call hb1
  clear L0 hb1
  by_cases hsz : (szBook ks ps es : Int) ≤ 1048576
  · rw [szR_pos hsz]
    have hszA : szBook ks ps es ≤ 1048576 := by omega
    have hge : 0 ≤ 1048576 - (szBook ks ps es : Int) := by omega
    have hle : 1048576 - (szBook ks ps es : Int) ≤ 1048576 := by omega
    generalize 1048576 - (szBook ks ps es : Int) = r at *
    clear hsz
    go_wp2_with fail
    refine (szChanges_any _ L _ _ (HB.out.keep L1.out.below) NN.out.2 hge hle).mono ?_
    rintro e w2 ⟨rfl, hb2⟩
    have L2 : Hid (Bxs w w2 [(w.heap.size, #[.slice ak ks.length ck, .slice ap ps.length cp, .slice ae es.length ce], 28)]) := L1.out.call hb2
    clear L1 hb2
    by_cases hsz2 : (szChgs L : Int) ≤ r
    · rw [szR_pos hsz2]
      have hszB : szChgs L ≤ 1048576 := by omega
      have hge2 : 0 ≤ r - (szChgs L : Int) := by omega
      generalize r - (szChgs L : Int) = r2 at *
      clear hsz2 hge hle
      obtain ⟨hLl, hLs⟩ := szChgs_small hszB
      have hsA : sumN (fun e => e.fs.length) es ≤ 1048576 := by
        have := sum_fs_le es
        unfold szBook szEnts at hszA
        omega
      have SS : Hid (BSmall ks ps es) := BSmall.of hszA
      have SM : Hid (SmB (ks, ps, es)) := ⟨NN.out.1, SS.out, hsA⟩
      have GA : Hid (∀ wx : World, Below w.heap.size w wx → Calls Tryz.prog 10 #[.agg #[.slice ak ks.length ck, .slice ap ps.length cp, .slice ae es.length ce]] wx fun e w' => ∃ uk up ue, e = .returned (.agg #[uk, up, ue]) ∧ BookOwn (wx.heap.size + 3) w' uk up ue ks ps es ∧ Below wx.heap.size wx w') := fun wx hx => toBook_own _ _ _ ks ps es wx (HA.out.keep hx) SS.out
      have GB : Hid (∀ wx : World, Below w.heap.size w wx → Calls Tryz.prog 25 #[.slice al L.length cl] wx fun e w' => e = .returned (.slice (some ⟨wx.heap.size, 0, none⟩) L.length L.length) ∧ FilledL wx w' wx.heap.size L.length 4 (L.map chgRow)) := fun wx hx => toChanges_own _ L wx (HB.out.keep hx) hLl
      have GS : Hid (∀ (x y z vl : Value) (wx : World), BookAt wx x y z ks ps es → ChgsAt wx vl L → Calls Tryz.prog 24 #[.agg #[x, y, z], vl] wx fun e w' => ∃ x y z v, e = .returned (.tuple #[.agg #[x, y, z], v]) ∧ BookNew wx.heap.size w' x y z (allR ks ps es L).1 (allR ks ps es L).2.1 (allR ks ps es L).2.2 ∧ IntsNew w' wx.heap.size v (allC ks ps es L) ∧ Below wx.heap.size wx w') := fun _ _ _ _ wx h h' => specTakeAll_any _ _ _ _ ks ps es L wx h h' SM.out hLs hLl
      have GI : Hid (∀ (x y z vl : Value) (wx : World), BookAt wx x y z ks ps es → ChgsAt wx vl L → Calls Tryz.prog 26 #[.agg #[x, y, z], vl] wx fun e w' => ∃ x y z v, e = .returned (.tuple #[.agg #[x, y, z], v]) ∧ BookNew wx.heap.size w' x y z (allR ks ps es L).1 (allR ks ps es L).2.1 (allR ks ps es L).2.2 ∧ IntsNew w' wx.heap.size v (allC ks ps es L) ∧ Below wx.heap.size wx w') := fun _ _ _ _ wx h h' => planTakeAll_any _ _ _ _ ks ps es L wx h h' SM.out hLs hLl
      have hR := allR_small ks ps es L SM.out hLs
      have hRc := allC_small ks ps es L hLl
      have HML : Hid (L.length ≤ maxLen) := by show _ ≤ maxLen; unfold maxLen; omega
      generalize allC ks ps es L = rc at *
      generalize (allR ks ps es L) = rb at *
      obtain ⟨rk, rp, re⟩ := rb
      have hRk : rk.length ≤ 1048576 := hR.s.k
      have hRp : rp.length ≤ 1048576 := hR.s.p
      have hRe : re.length ≤ 1048576 := hR.s.e
      have hRs : sumN (fun e => e.fs.length) re ≤ 1048576 := hR.u
      dsimp only at GS GI
      clear NN HA HB hR hLs
      obtain ⟨a0, a1, a2⟩ : w2.cell? ⟨w.heap.size, 0, none⟩ = some (.slice ak ks.length ck) ∧ w2.cell? ⟨w.heap.size, 1, none⟩ = some (.slice ap ps.length cp) ∧ w2.cell? ⟨w.heap.size, 2, none⟩ = some (.slice ae es.length ce) := ⟨L2.out.cell 0 rfl 0, L2.out.cell 0 rfl 1, L2.out.cell 0 rfl 2⟩
      go_wp2_with fail
      refine (GA.out _ L2.out.below).mono ?_
      rintro e wa ⟨kb, pb, eb, rfl, hBb, hbb⟩
      have HBK : Hid (BookAt wa kb pb eb ks ps es) := hBb.at SS.out
      have HW1 : Hid (Below w2.heap.size w2 wa) := hbb
      clear hBb hbb a0 a1 a2
      go_wp2_with fail
      refine (GB.out _ (below_step L2.out.below HW1.out)).mono ?_
      rintro e wb ⟨rfl, hFl⟩
      have HBL : Hid (BookAt wb kb pb eb ks ps es ∧ ChgsAt wb (.slice (some ⟨wa.heap.size, 0, none⟩) L.length L.length) L) := ⟨HBK.out.keep hFl.below, FilledL.chgs hFl.held rfl HML.out⟩
      have HW2 : Hid (Below w2.heap.size w2 wb) := below_step HW1.out hFl.below
      clear HBK HW1 hFl
      go_wp2_with fail
      refine (GS.out _ _ _ _ _ HBL.out.1 HBL.out.2).mono ?_
      rintro e wc ⟨xq, yq, zq, vq, rfl, hNq, hIq, hbq⟩
      obtain ⟨x1, x2, y1, y2, z1, z2, rfl, rfl, rfl⟩ := hNq.slices
      obtain ⟨j1, j2, rfl⟩ := own_slice hIq
      have HW3 : Hid (Below w2.heap.size w2 wc) := below_step HW2.out hbq
      have hz2 : w2.heap.size ≤ wc.heap.size := HW3.out.size
      have LC : Hid (Bxs w wc [(w.heap.size, #[.slice ak ks.length ck, .slice ap ps.length cp, .slice ae es.length ce], 28)]) := L2.out.call HW3.out
      have hzc : w.heap.size < wc.heap.size := LC.out.lt (p := (w.heap.size, #[.slice ak ks.length ck, .slice ap ps.length cp, .slice ae es.length ce], 28)) (by simp)
      have hal : Below wc.heap.size wc (wc.alloc (.cells #[.slice x1 rk.length x2, .slice y1 rp.length y2, .slice z1 re.length z2] 39)) := (Below.refl _ _).alloc (Nat.le_refl _) _
      have L3 : Hid (Bxs w (wc.alloc (.cells #[.slice x1 rk.length x2, .slice y1 rp.length y2, .slice z1 re.length z2] 39)) [(wc.heap.size, #[.slice x1 rk.length x2, .slice y1 rp.length y2, .slice z1 re.length z2], 39), (w.heap.size, #[.slice ak ks.length ck, .slice ap ps.length cp, .slice ae es.length ce], 28)]) := (LC.out.call hal).push (heap_newF wc _)
      have V3 : Hid (BookNew w2.heap.size (wc.alloc (.cells #[.slice x1 rk.length x2, .slice y1 rp.length y2, .slice z1 re.length z2] 39)) (.slice x1 rk.length x2) (.slice y1 rp.length y2) (.slice z1 re.length z2) rk rp re) := (hNq.mono HW2.out.size).keep hal
      have I3 : Hid (IntsNew (wc.alloc (.cells #[.slice x1 rk.length x2, .slice y1 rp.length y2, .slice z1 re.length z2] 39)) w2.heap.size (.slice j1 rc.length j2) rc) := IntsNew.keep (own_mono hIq HW2.out.size) hal
      obtain ⟨a0, a1, a2⟩ : wc.cell? ⟨w.heap.size, 0, none⟩ = some (.slice ak ks.length ck) ∧ wc.cell? ⟨w.heap.size, 1, none⟩ = some (.slice ap ps.length cp) ∧ wc.cell? ⟨w.heap.size, 2, none⟩ = some (.slice ae es.length ce) := ⟨LC.out.cell 0 rfl 0, LC.out.cell 0 rfl 1, LC.out.cell 0 rfl 2⟩
      clear hNq hIq hbq HBL HW2 HW3 L2 hal
      go_wp2_with fail
      clear a0 a1 a2 LC
      have hX3 := L3.out.lt (p := (wc.heap.size, #[.slice x1 rk.length x2, .slice y1 rp.length y2, .slice z1 re.length z2], 39)) (by simp)
      dsimp only at hX3
      generalize (wc.alloc (.cells #[.slice x1 rk.length x2, .slice y1 rp.length y2, .slice z1 re.length z2] 39)) = w3 at *
      generalize wc.heap.size = X at *
      refine (GA.out _ L3.out.below).mono ?_
      rintro e w6 ⟨kv6, pv6, ev6, rfl, hB6, hb6⟩
      obtain ⟨⟨k6, k6', rfl, -, -, -⟩, ⟨p6, p6', rfl, -, -, -⟩, ⟨e6, e6', rfl, -, -, -⟩⟩ := hB6.at SS.out
      have OW6 : Hid (BookOwn (w3.heap.size + 3) w6 (.slice k6 ks.length k6') (.slice p6 ps.length p6') (.slice e6 es.length e6') ks ps es) := hB6
      have L6 : Hid (Bxs w w6 [(X, #[.slice x1 rk.length x2, .slice y1 rp.length y2, .slice z1 re.length z2], 39), (w.heap.size, #[.slice ak ks.length ck, .slice ap ps.length cp, .slice ae es.length ce], 28)]) := L3.out.call hb6
      have hz6 : w3.heap.size ≤ w6.heap.size := hb6.size
      have VB : Hid (∀ wx : World, Below w3.heap.size w3 wx → BookNew w2.heap.size wx (.slice x1 rk.length x2) (.slice y1 rp.length y2) (.slice z1 re.length z2) rk rp re) := fun wx hx => V3.out.keep hx
      have IB : Hid (∀ wx : World, Below w3.heap.size w3 wx → IntsNew wx w2.heap.size (.slice j1 rc.length j2) rc) := fun wx hx => I3.out.keep hx
      have T3 : Hid (Below w3.heap.size w3 w6) := hb6
      have B7 : Hid (Below w6.heap.size w6 (w6.alloc (.cells #[.slice k6 ks.length k6', .slice p6 ps.length p6', .slice e6 es.length e6'] 39))) := (Below.refl _ _).alloc (Nat.le_refl _) _
      have BA7 : Hid (BookAt (w6.alloc (.cells #[.slice k6 ks.length k6', .slice p6 ps.length p6', .slice e6 es.length e6'] 39)) (.slice k6 ks.length k6') (.slice p6 ps.length p6') (.slice e6 es.length e6') ks ps es) := (hB6.at SS.out).keep B7.out
      clear hb6 hB6 L3 V3 I3
      have L7 : Hid (Bxs w (w6.alloc (.cells #[.slice k6 ks.length k6', .slice p6 ps.length p6', .slice e6 es.length e6'] 39)) [(w6.heap.size, #[.slice k6 ks.length k6', .slice p6 ps.length p6', .slice e6 es.length e6'], 39), (X, #[.slice x1 rk.length x2, .slice y1 rp.length y2, .slice z1 re.length z2], 39), (w.heap.size, #[.slice ak ks.length ck, .slice ap ps.length cp, .slice ae es.length ce], 28)]) := (L6.out.call B7.out).push (heap_newF w6 _)
      have T7 : Hid (Below w3.heap.size w3 (w6.alloc (.cells #[.slice k6 ks.length k6', .slice p6 ps.length p6', .slice e6 es.length e6'] 39))) := below_step T3.out B7.out
      have HS7 := toHidC (show (w6.alloc (.cells #[.slice k6 ks.length k6', .slice p6 ps.length p6', .slice e6 es.length e6'] 39)).heap.size = w6.heap.size + 1 by simp)
      clear L6
      go_wp2_with fail
      generalize (w6.alloc (.cells #[.slice k6 ks.length k6', .slice p6 ps.length p6', .slice e6 es.length e6'] 39)) = w7 at *
      refine (GB.out _ L7.out.below).mono ?_
      rintro e w8 ⟨rfl, hFl⟩
      have hz7 : w6.heap.size + 1 = w7.heap.size := HS7.out.symm
      have hz8 : w7.heap.size < w8.heap.size := hFl.big
      have T8 : Hid (Below w7.heap.size w7 w8) := hFl.below
      have R8 : Hid (HeldL w8 w7.heap.size L.length 4 (L.map chgRow)) := hFl.held
      have L8 : Hid (Bxs w w8 [(w6.heap.size, #[.slice k6 ks.length k6', .slice p6 ps.length p6', .slice e6 es.length e6'], 39), (X, #[.slice x1 rk.length x2, .slice y1 rp.length y2, .slice z1 re.length z2], 39), (w.heap.size, #[.slice ak ks.length ck, .slice ap ps.length cp, .slice ae es.length ce], 28)]) := L7.out.call T8.out
      have BA8 : Hid (BookAt w8 (.slice k6 ks.length k6') (.slice p6 ps.length p6') (.slice e6 es.length e6') ks ps es) := BA7.out.keep T8.out
      have hzw : w.heap.size < w8.heap.size := L8.out.lt (p := (w.heap.size, #[.slice ak ks.length ck, .slice ap ps.length cp, .slice ae es.length ce], 28)) (by simp)
      clear hFl L7 BA7 HS7
      obtain ⟨g0, g1, g2⟩ : w8.cell? ⟨w6.heap.size, 0, none⟩ = some (.slice k6 ks.length k6') ∧ w8.cell? ⟨w6.heap.size, 1, none⟩ = some (.slice p6 ps.length p6') ∧ w8.cell? ⟨w6.heap.size, 2, none⟩ = some (.slice e6 es.length e6') := ⟨L8.out.cell 0 rfl 0, L8.out.cell 0 rfl 1, L8.out.cell 0 rfl 2⟩
      go_wp2_with fail
      refine (GI.out _ _ _ _ _ BA8.out (FilledL.chgs R8.out rfl HML.out)).mono ?_
      rintro e wa ⟨xq, yq, zq, vq, rfl, hNq, hIq, hbq⟩
      obtain ⟨u1, u2, v1, v2, t1, t2, rfl, rfl, rfl⟩ := hNq.slices
      obtain ⟨i1, i2, rfl⟩ := own_slice hIq
      have hal : Below wa.heap.size wa (wa.alloc (.cells #[.slice u1 rk.length u2, .slice v1 rp.length v2, .slice t1 re.length t2] 39)) := (Below.refl _ _).alloc (Nat.le_refl _) _
      have Q10 : Hid (Below w8.heap.size w8 (wa.alloc (.cells #[.slice u1 rk.length u2, .slice v1 rp.length v2, .slice t1 re.length t2] 39))) := below_step hbq hal
      have LA : Hid (Bxs w wa [(w6.heap.size, #[.slice k6 ks.length k6', .slice p6 ps.length p6', .slice e6 es.length e6'], 39), (X, #[.slice x1 rk.length x2, .slice y1 rp.length y2, .slice z1 re.length z2], 39), (w.heap.size, #[.slice ak ks.length ck, .slice ap ps.length cp, .slice ae es.length ce], 28)]) := L8.out.call hbq
      have L10 : Hid (Bxs w (wa.alloc (.cells #[.slice u1 rk.length u2, .slice v1 rp.length v2, .slice t1 re.length t2] 39)) [(wa.heap.size, #[.slice u1 rk.length u2, .slice v1 rp.length v2, .slice t1 re.length t2], 39), (w6.heap.size, #[.slice k6 ks.length k6', .slice p6 ps.length p6', .slice e6 es.length e6'], 39), (X, #[.slice x1 rk.length x2, .slice y1 rp.length y2, .slice z1 re.length z2], 39), (w.heap.size, #[.slice ak ks.length ck, .slice ap ps.length cp, .slice ae es.length ce], 28)]) := (LA.out.call hal).push (heap_newF wa _)
      have V10 : Hid (BookNew w8.heap.size (wa.alloc (.cells #[.slice u1 rk.length u2, .slice v1 rp.length v2, .slice t1 re.length t2] 39)) (.slice u1 rk.length u2) (.slice v1 rp.length v2) (.slice t1 re.length t2) rk rp re) := hNq.keep hal
      have I10 : Hid (IntsNew (wa.alloc (.cells #[.slice u1 rk.length u2, .slice v1 rp.length v2, .slice t1 re.length t2] 39)) w8.heap.size (.slice i1 rc.length i2) rc) := IntsNew.keep hIq hal
      have hYq : w8.heap.size ≤ wa.heap.size := hbq.size
      have hXa : X < wa.heap.size := LA.out.lt (p := (X, #[.slice x1 rk.length x2, .slice y1 rp.length y2, .slice z1 re.length z2], 39)) (by simp)
      obtain ⟨f0, f1, f2⟩ : wa.cell? ⟨X, 0, none⟩ = some (.slice x1 rk.length x2) ∧ wa.cell? ⟨X, 1, none⟩ = some (.slice y1 rp.length y2) ∧ wa.cell? ⟨X, 2, none⟩ = some (.slice z1 re.length z2) := ⟨LA.out.cell 1 rfl 0, LA.out.cell 1 rfl 1, LA.out.cell 1 rfl 2⟩
      clear hNq hIq hbq hal L8 g0 g1 g2
      go_wp2_with fail
      clear f0 f1 f2 LA
      generalize (wa.alloc (.cells #[.slice u1 rk.length u2, .slice v1 rp.length v2, .slice t1 re.length t2] 39)) = w10 at *
      generalize wa.heap.size = Y at *
      have U10 : Hid (Below w3.heap.size w3 w10) := below_step (below_step T7.out T8.out) Q10.out
      refine (eqBook_any _ _ _ _ _ _ rk rp re _ V10.out.at (VB.out _ U10.out).at).mono ?_
      rintro e w11 ⟨rfl, hb⟩
      have L11 : Hid (Bxs w w11 [(Y, #[.slice u1 rk.length u2, .slice v1 rp.length v2, .slice t1 re.length t2], 39), (w6.heap.size, #[.slice k6 ks.length k6', .slice p6 ps.length p6', .slice e6 es.length e6'], 39), (X, #[.slice x1 rk.length x2, .slice y1 rp.length y2, .slice z1 re.length z2], 39), (w.heap.size, #[.slice ak ks.length ck, .slice ap ps.length cp, .slice ae es.length ce], 28)]) := L10.out.call hb
      have Q11 : Hid (Below w8.heap.size w8 w11) := below_step Q10.out hb
      have V11 : Hid (BookNew w8.heap.size w11 (.slice u1 rk.length u2) (.slice v1 rp.length v2) (.slice t1 re.length t2) rk rp re) := V10.out.keep hb
      have I11 : Hid (IntsNew w11 w8.heap.size (.slice i1 rc.length i2) rc) := I10.out.keep hb
      have U11 : Hid (Below w3.heap.size w3 w11) := below_step U10.out hb
      clear hb L10 Q10 V10 I10 U10
      go_wp2_with fail
      refine (eqInts_any _ _ rc _ I11.out.at (IB.out _ U11.out).at).mono ?_
      rintro e w12 ⟨rfl, hb⟩
      have L12 : Hid (Bxs w w12 [(Y, #[.slice u1 rk.length u2, .slice v1 rp.length v2, .slice t1 re.length t2], 39), (w6.heap.size, #[.slice k6 ks.length k6', .slice p6 ps.length p6', .slice e6 es.length e6'], 39), (X, #[.slice x1 rk.length x2, .slice y1 rp.length y2, .slice z1 re.length z2], 39), (w.heap.size, #[.slice ak ks.length ck, .slice ap ps.length cp, .slice ae es.length ce], 28)]) := L11.out.call hb
      have Q12 : Hid (Below w8.heap.size w8 w12) := below_step Q11.out hb
      have V12 : Hid (BookNew w8.heap.size w12 (.slice u1 rk.length u2) (.slice v1 rp.length v2) (.slice t1 re.length t2) rk rp re) := V11.out.keep hb
      have I12 : Hid (IntsNew w12 w8.heap.size (.slice i1 rc.length i2) rc) := I11.out.keep hb
      have U12 : Hid (Below w3.heap.size w3 w12) := below_step U11.out hb
      clear hb L11 Q11 V11 I11 U11
      go_wp2
      refine wp_region_noPanic ?_
      refine wp_region_held_drew (S := fun w' => (w'.cell? ⟨w6.heap.size, 0, none⟩ = some (.slice k6 ks.length k6') ∧ w'.cell? ⟨w6.heap.size, 1, none⟩ = some (.slice p6 ps.length p6') ∧ w'.cell? ⟨w6.heap.size, 2, none⟩ = some (.slice e6 es.length e6')) ∧ (w'.cell? ⟨w.heap.size, 0, none⟩ = some (.slice ak ks.length ck) ∧ w'.cell? ⟨w.heap.size, 1, none⟩ = some (.slice ap ps.length cp) ∧ w'.cell? ⟨w.heap.size, 2, none⟩ = some (.slice ae es.length ce))) (by kernel_rfl) ?_ (fun hHeld => ?_)
      · exact ⟨⟨L12.out.drew.cell 1 rfl 0, L12.out.drew.cell 1 rfl 1, L12.out.drew.cell 1 rfl 2⟩, ⟨L12.out.drew.cell 3 rfl 0, L12.out.drew.cell 3 rfl 1, L12.out.drew.cell 3 rfl 2⟩⟩
      refine wpAnyH_take (i := 0) (v := ?_) rfl (by kernel_rfl) (by kernel_rfl) (by kernel_rfl) (fun _ _ _ h => h) (Or.inl ⟨by rfl, ?_⟩) (by assumption) ?_
      rotate_left
      · intro w hSw; (try dsimp only at hSw); go_simp; try with_reducible rfl
      simp only [Act.put, List.setIfInBounds_toArray, List.set_cons_zero, List.set_cons_succ, List.getElem_toArray, List.getElem_cons_succ, List.getElem_cons_zero]
      refine wpAnyH_take (i := 1) (v := ?_) rfl (by kernel_rfl) (by kernel_rfl) (by kernel_rfl) (fun _ _ _ h => h) (Or.inl ⟨by rfl, ?_⟩) (by assumption) ?_
      rotate_left
      · intro w hSw; (try dsimp only at hSw); go_simp; try with_reducible rfl
      simp only [Act.put, List.setIfInBounds_toArray, List.set_cons_zero, List.set_cons_succ, List.getElem_toArray, List.getElem_cons_succ, List.getElem_cons_zero]
      clear hHeld
      refine wpAnyH_ready (rs := [2]) (by kernel_rfl) (by simp) ?_
      refine AllReadyH.cons rfl (fun K hK => ?_) AllReadyH.nil
      go_simp
      refine (GA.out _ L12.out.drew.below).mono ?_
      rintro e w13 ⟨kz, pz, ez, rfl, hBz, hbz⟩
      have hb : Below w12.heap.size w12 w13 := below_step (Below.refl _ _).drew hbz
      have BZ : Hid (BookAt w13 kz pz ez ks ps es) := hBz.at SS.out
      have L13 : Hid (Bxs w w13 [(Y, #[.slice u1 rk.length u2, .slice v1 rp.length v2, .slice t1 re.length t2], 39), (w6.heap.size, #[.slice k6 ks.length k6', .slice p6 ps.length p6', .slice e6 es.length e6'], 39), (X, #[.slice x1 rk.length x2, .slice y1 rp.length y2, .slice z1 re.length z2], 39), (w.heap.size, #[.slice ak ks.length ck, .slice ap ps.length cp, .slice ae es.length ce], 28)]) := L12.out.call hb
      have Q13 : Hid (Below w8.heap.size w8 w13) := below_step Q12.out hb
      have V13 : Hid (BookNew w8.heap.size w13 (.slice u1 rk.length u2) (.slice v1 rp.length v2) (.slice t1 re.length t2) rk rp re) := V12.out.keep hb
      have I13 : Hid (IntsNew w13 w8.heap.size (.slice i1 rc.length i2) rc) := I12.out.keep hb
      have U13 : Hid (Below w3.heap.size w3 w13) := below_step U12.out hb
      clear hb L12 Q12 V12 I12 U12
      refine hK.out _ _ ⟨⟨L13.out.cell 1 rfl 0, L13.out.cell 1 rfl 1, L13.out.cell 1 rfl 2⟩, ⟨L13.out.cell 3 rfl 0, L13.out.cell 3 rfl 1, L13.out.cell 3 rfl 2⟩⟩ (fun _ => ?_)
      clear hK K hbz hBz
      refine wpAnyH_ready (rs := [3]) (by kernel_rfl) (by simp) ?_
      refine AllReadyH.cons rfl (fun K hK => ?_) AllReadyH.nil
      go_simp
      refine (eqBook_any _ _ _ _ _ _ ks ps es _ (BA8.out.keep Q13.out) BZ.out).mono ?_
      rintro e w14 ⟨rfl, hb⟩
      have L14 : Hid (Bxs w w14 [(Y, #[.slice u1 rk.length u2, .slice v1 rp.length v2, .slice t1 re.length t2], 39), (w6.heap.size, #[.slice k6 ks.length k6', .slice p6 ps.length p6', .slice e6 es.length e6'], 39), (X, #[.slice x1 rk.length x2, .slice y1 rp.length y2, .slice z1 re.length z2], 39), (w.heap.size, #[.slice ak ks.length ck, .slice ap ps.length cp, .slice ae es.length ce], 28)]) := L13.out.call hb
      have Q14 : Hid (Below w8.heap.size w8 w14) := below_step Q13.out hb
      have V14 : Hid (BookNew w8.heap.size w14 (.slice u1 rk.length u2) (.slice v1 rp.length v2) (.slice t1 re.length t2) rk rp re) := V13.out.keep hb
      have I14 : Hid (IntsNew w14 w8.heap.size (.slice i1 rc.length i2) rc) := I13.out.keep hb
      have U14 : Hid (Below w3.heap.size w3 w14) := below_step U13.out hb
      clear hb L13 Q13 V13 I13 U13
      have hHeld : (w14.cell? ⟨w6.heap.size, 0, none⟩ = some (.slice k6 ks.length k6') ∧ w14.cell? ⟨w6.heap.size, 1, none⟩ = some (.slice p6 ps.length p6') ∧ w14.cell? ⟨w6.heap.size, 2, none⟩ = some (.slice e6 es.length e6')) ∧ (w14.cell? ⟨w.heap.size, 0, none⟩ = some (.slice ak ks.length ck) ∧ w14.cell? ⟨w.heap.size, 1, none⟩ = some (.slice ap ps.length cp) ∧ w14.cell? ⟨w.heap.size, 2, none⟩ = some (.slice ae es.length ce)) := ⟨⟨L14.out.cell 1 rfl 0, L14.out.cell 1 rfl 1, L14.out.cell 1 rfl 2⟩, ⟨L14.out.cell 3 rfl 0, L14.out.cell 3 rfl 1, L14.out.cell 3 rfl 2⟩⟩
      refine hK.out _ _ hHeld (fun _ => ?_)
      clear hK K BZ
      refine wpAnyH_take (i := 4) (v := ?_) rfl (by kernel_rfl) (by kernel_rfl) (by kernel_rfl) (fun _ _ _ h => h) (Or.inl ⟨by rfl, ?_⟩) (by assumption) ?_
      rotate_left
      · intro w hSw; (try dsimp only at hSw); go_simp; try with_reducible rfl
      simp only [Act.put, List.setIfInBounds_toArray, List.set_cons_zero, List.set_cons_succ, List.getElem_toArray, List.getElem_cons_succ, List.getElem_cons_zero]
      clear hHeld
      refine wpAnyH_done (by kernel_rfl) ?_ _
      refine NoPanic.normal ?_
      go_wp2_with fail
      refine (GB.out _ L14.out.below).mono ?_
      rintro e w15 ⟨rfl, hFl⟩
      have hb := hFl.below
      have C15 : Hid (ChgsAt w15 (.slice (some ⟨w14.heap.size, 0, none⟩) L.length L.length) L) := FilledL.chgs hFl.held rfl HML.out
      clear hFl
      have L15 : Hid (Bxs w w15 [(Y, #[.slice u1 rk.length u2, .slice v1 rp.length v2, .slice t1 re.length t2], 39), (w6.heap.size, #[.slice k6 ks.length k6', .slice p6 ps.length p6', .slice e6 es.length e6'], 39), (X, #[.slice x1 rk.length x2, .slice y1 rp.length y2, .slice z1 re.length z2], 39), (w.heap.size, #[.slice ak ks.length ck, .slice ap ps.length cp, .slice ae es.length ce], 28)]) := L14.out.call hb
      have Q15 : Hid (Below w8.heap.size w8 w15) := below_step Q14.out hb
      have V15 : Hid (BookNew w8.heap.size w15 (.slice u1 rk.length u2) (.slice v1 rp.length v2) (.slice t1 re.length t2) rk rp re) := V14.out.keep hb
      have I15 : Hid (IntsNew w15 w8.heap.size (.slice i1 rc.length i2) rc) := I14.out.keep hb
      have U15 : Hid (Below w3.heap.size w3 w15) := below_step U14.out hb
      clear hb L14 Q14 V14 I14 U14
      go_wp2_with fail
      refine (eqChangesA_any _ _ L _ (FilledL.chgs (R8.out.keep Q15.out) rfl HML.out) C15.out).mono ?_
      rintro e w16 ⟨rfl, hb⟩
      clear C15
      have L16 : Hid (Bxs w w16 [(Y, #[.slice u1 rk.length u2, .slice v1 rp.length v2, .slice t1 re.length t2], 39), (w6.heap.size, #[.slice k6 ks.length k6', .slice p6 ps.length p6', .slice e6 es.length e6'], 39), (X, #[.slice x1 rk.length x2, .slice y1 rp.length y2, .slice z1 re.length z2], 39), (w.heap.size, #[.slice ak ks.length ck, .slice ap ps.length cp, .slice ae es.length ce], 28)]) := L15.out.call hb
      have Q16 : Hid (Below w8.heap.size w8 w16) := below_step Q15.out hb
      have V16 : Hid (BookNew w8.heap.size w16 (.slice u1 rk.length u2) (.slice v1 rp.length v2) (.slice t1 re.length t2) rk rp re) := V15.out.keep hb
      have I16 : Hid (IntsNew w16 w8.heap.size (.slice i1 rc.length i2) rc) := I15.out.keep hb
      have U16 : Hid (Below w3.heap.size w3 w16) := below_step U15.out hb
      clear hb L15 Q15 V15 I15 U15
      obtain ⟨g0, g1, g2⟩ : w16.cell? ⟨w6.heap.size, 0, none⟩ = some (.slice k6 ks.length k6') ∧ w16.cell? ⟨w6.heap.size, 1, none⟩ = some (.slice p6 ps.length p6') ∧ w16.cell? ⟨w6.heap.size, 2, none⟩ = some (.slice e6 es.length e6') := ⟨L16.out.cell 1 rfl 0, L16.out.cell 1 rfl 1, L16.out.cell 1 rfl 2⟩
      have T16' : Hid (Below w6.heap.size w6 w16) := below_step (below_step B7.out T8.out) Q16.out
      have hz16 : w8.heap.size ≤ w16.heap.size := Q16.out.size
      go_wp2_with fail
      refine (markBook_any _ _ _ ks ps es 1 (w3.heap.size + 3) w6 _ OW6.out (fun k _ hk => T16'.out.block k hk) T16'.out.size SS.out hsA (by omega)).mono ?_
      rintro e w17 ⟨⟨k17, hk17, hk17', rfl⟩, hO⟩
      have L17 : Hid (Bxs w w17 [(Y, #[.slice u1 rk.length u2, .slice v1 rp.length v2, .slice t1 re.length t2], 39), (w6.heap.size, #[.slice k6 ks.length k6', .slice p6 ps.length p6', .slice e6 es.length e6'], 39), (X, #[.slice x1 rk.length x2, .slice y1 rp.length y2, .slice z1 re.length z2], 39), (w.heap.size, #[.slice ak ks.length ck, .slice ap ps.length cp, .slice ae es.length ce], 28)]) := by
        refine L16.out.same (L16.out.below.trans (hO.below.mono (by omega))) (fun p hp => ?_)
        have hlt := L16.out.lt hp
        simp only [List.mem_cons, List.not_mem_nil, or_false] at hp
        rcases hp with rfl | rfl | rfl | rfl
        · exact hO.up _ (by show _ ≤ Y; omega) hlt
        · exact hO.up _ (Nat.le_refl _) hlt
        · exact hO.below.block _ (by show X < _; omega)
        · exact hO.below.block _ (by show w.heap.size < _; omega)
      have V17 : Hid (BookNew w8.heap.size w17 (.slice u1 rk.length u2) (.slice v1 rp.length v2) (.slice t1 re.length t2) rk rp re) := V16.out.lt (fun k h1 h2 => hO.up k (by omega) h2)
      have I17 : Hid (IntsNew w17 w8.heap.size (.slice i1 rc.length i2) rc) := I16.out.lt (fun k h1 h2 => hO.up k (by omega) h2)
      have U17 : Hid (Below w3.heap.size w3 w17) := U16.out.trans (hO.below.mono (by omega))
      have R17 : Hid (w17.there w7.heap.size 0 (L.length * 4)) := hO.stays _ _ _ (by omega) (R8.out.keep Q16.out).room
      have hz17 : w8.heap.size ≤ w17.heap.size := Nat.le_trans hz16 hO.below.size
      clear hO g0 g1 g2 L16 V16 I16 U16 Q16 T16'
      go_wp2_with fail
      refine (markChanges_any w7.heap.size L.length L.length k17 _ (by omega) R17.out hLl (by omega)).mono ?_
      rintro e w18 ⟨rfl, hM⟩
      have hG := hM.grown
      have L18 : Hid (Bxs w w18 [(Y, #[.slice u1 rk.length u2, .slice v1 rp.length v2, .slice t1 re.length t2], 39), (w6.heap.size, #[.slice k6 ks.length k6', .slice p6 ps.length p6', .slice e6 es.length e6'], 39), (X, #[.slice x1 rk.length x2, .slice y1 rp.length y2, .slice z1 re.length z2], 39), (w.heap.size, #[.slice ak ks.length ck, .slice ap ps.length cp, .slice ae es.length ce], 28)]) := by
        refine L17.out.same (L17.out.below.trans ⟨hG.1, hG.2, hG.3, hG.4, fun k hk => hG.5 k (by omega) (fun e => by injection e; omega)⟩) (fun p hp => ?_)
        have hlt := L17.out.lt hp
        simp only [List.mem_cons, List.not_mem_nil, or_false] at hp
        rcases hp with rfl | rfl | rfl | rfl
        · exact hG.5 _ hlt (fun e => by injection e with e; dsimp only at e; omega)
        · exact hG.5 _ hlt (fun e => by injection e with e; dsimp only at e; omega)
        · exact hG.5 _ hlt (fun e => by injection e with e; dsimp only at e; omega)
        · exact hG.5 _ hlt (fun e => by injection e with e; dsimp only at e; omega)
      have V18 : Hid (BookNew w8.heap.size w18 (.slice u1 rk.length u2) (.slice v1 rp.length v2) (.slice t1 re.length t2) rk rp re) := V17.out.lt (fun k h1 h2 => hG.5 k h2 (fun e => by injection e; omega))
      have I18 : Hid (IntsNew w18 w8.heap.size (.slice i1 rc.length i2) rc) := I17.out.lt (fun k h1 h2 => hG.5 k h2 (fun e => by injection e; omega))
      have U18 : Hid (Below w3.heap.size w3 w18) := U17.out.trans ⟨hG.1, hG.2, hG.3, hG.4, fun k hk => hG.5 k (by omega) (fun e => by injection e; omega)⟩
      clear hG hM R17 L17 V17 I17 U17
      generalize k17 + L.length * 4 = k18 at *
      have hk18n : ¬ ((k18 : Nat) : Int) < 0 := by omega
      obtain ⟨g0, g1, g2⟩ : w18.cell? ⟨Y, 0, none⟩ = some (.slice u1 rk.length u2) ∧ w18.cell? ⟨Y, 1, none⟩ = some (.slice v1 rp.length v2) ∧ w18.cell? ⟨Y, 2, none⟩ = some (.slice t1 re.length t2) := ⟨L18.out.cell 0 rfl 0, L18.out.cell 0 rfl 1, L18.out.cell 0 rfl 2⟩
      obtain ⟨f0, f1, f2⟩ : w18.cell? ⟨X, 0, none⟩ = some (.slice x1 rk.length x2) ∧ w18.cell? ⟨X, 1, none⟩ = some (.slice y1 rp.length y2) ∧ w18.cell? ⟨X, 2, none⟩ = some (.slice z1 re.length z2) := ⟨L18.out.cell 2 rfl 0, L18.out.cell 2 rfl 1, L18.out.cell 2 rfl 2⟩
      go_wp2_with fail
      refine (eqBook_any _ _ _ _ _ _ rk rp re _ V18.out.at (VB.out _ U18.out).at).mono ?_
      rintro e w19 ⟨rfl, hb⟩
      clear g0 g1 g2 f0 f1 f2
      have L19 : Hid (Bxs w w19 [(Y, #[.slice u1 rk.length u2, .slice v1 rp.length v2, .slice t1 re.length t2], 39), (w6.heap.size, #[.slice k6 ks.length k6', .slice p6 ps.length p6', .slice e6 es.length e6'], 39), (X, #[.slice x1 rk.length x2, .slice y1 rp.length y2, .slice z1 re.length z2], 39), (w.heap.size, #[.slice ak ks.length ck, .slice ap ps.length cp, .slice ae es.length ce], 28)]) := L18.out.call hb
      have V19 : Hid (BookNew w8.heap.size w19 (.slice u1 rk.length u2) (.slice v1 rp.length v2) (.slice t1 re.length t2) rk rp re) := V18.out.keep hb
      have I19 : Hid (IntsNew w19 w8.heap.size (.slice i1 rc.length i2) rc) := I18.out.keep hb
      have U19 : Hid (Below w3.heap.size w3 w19) := below_step U18.out hb
      clear hb L18 V18 I18 U18
      go_wp2_with fail
      refine (eqInts_any _ _ rc _ I19.out.at (IB.out _ U19.out).at).mono ?_
      rintro e w20 ⟨rfl, hb⟩
      have L20 : Hid (Bxs w w20 [(Y, #[.slice u1 rk.length u2, .slice v1 rp.length v2, .slice t1 re.length t2], 39), (w6.heap.size, #[.slice k6 ks.length k6', .slice p6 ps.length p6', .slice e6 es.length e6'], 39), (X, #[.slice x1 rk.length x2, .slice y1 rp.length y2, .slice z1 re.length z2], 39), (w.heap.size, #[.slice ak ks.length ck, .slice ap ps.length cp, .slice ae es.length ce], 28)]) := L19.out.call hb
      have V20 : Hid (BookNew w8.heap.size w20 (.slice u1 rk.length u2) (.slice v1 rp.length v2) (.slice t1 re.length t2) rk rp re) := V19.out.keep hb
      have I20 : Hid (IntsNew w20 w8.heap.size (.slice i1 rc.length i2) rc) := I19.out.keep hb
      have U20 : Hid (Below w3.heap.size w3 w20) := below_step U19.out hb
      clear hb L19 V19 I19 U19
      obtain ⟨g0, g1, g2⟩ : w20.cell? ⟨Y, 0, none⟩ = some (.slice u1 rk.length u2) ∧ w20.cell? ⟨Y, 1, none⟩ = some (.slice v1 rp.length v2) ∧ w20.cell? ⟨Y, 2, none⟩ = some (.slice t1 re.length t2) := ⟨L20.out.cell 0 rfl 0, L20.out.cell 0 rfl 1, L20.out.cell 0 rfl 2⟩
      have hz20 : w8.heap.size ≤ w20.heap.size := by have := L20.out.lt (p := (Y, #[.slice u1 rk.length u2, .slice v1 rp.length v2, .slice t1 re.length t2], 39)) (by simp); omega
      go_wp2_with fail
      refine (markBookI_any _ _ _ rk rp re w8.heap.size _ V20.out hz20 hRk hRp hRe hRs).mono ?_
      rintro e w21 ⟨M, rfl, hM20, hM, hb21, hfar, hbx⟩
      have L21 : Hid (Bxs w w21 [(Y, #[.slice u1 rk.length u2, .slice v1 rp.length v2, .slice t1 re.length t2], 39), (w6.heap.size, #[.slice k6 ks.length k6', .slice p6 ps.length p6', .slice e6 es.length e6'], 39), (X, #[.slice x1 rk.length x2, .slice y1 rp.length y2, .slice z1 re.length z2], 39), (w.heap.size, #[.slice ak ks.length ck, .slice ap ps.length cp, .slice ae es.length ce], 28)]) := by
        refine L20.out.same (L20.out.below.trans (hb21.mono (by omega))) (fun p hp => ?_)
        have hh := L20.out.has p hp
        simp only [List.mem_cons, List.not_mem_nil, or_false] at hp
        rcases hp with rfl | rfl | rfl | rfl
        · exact (hbx _ _ _ ntBook hh).trans hh.symm
        · exact (hbx _ _ _ ntBook hh).trans hh.symm
        · exact (hbx _ _ _ ntBook hh).trans hh.symm
        · exact hb21.block _ (by show w.heap.size < _; omega)
      have I21 : Hid (IntsNew w21 w8.heap.size (.slice i1 rc.length i2) rc) := I20.out.other hbx
      have F21 := toHid (fun (w2 : World) (hg : w21.grownBy w2 (Value.ownBlock (.slice i1 rc.length i2))) => hfar w2 _ (fun j hj => I20.out.typed j hj) hg)
      have U21 : Hid (Below w3.heap.size w3 w21) := U20.out.trans (hb21.mono (by omega))
      clear hM hb21 hfar hbx L20 V20 I20 U20 g0 g1 g2
      go_wp2_with fail
      refine (markIntG_any _ rc.length M _ (Roo.of I21.out) hRc (by omega)).mono ?_
      rintro e w22 ⟨rfl, hRM, hG⟩
      have M22 : Hid (BookM w22 (.slice u1 rk.length u2) (.slice v1 rp.length v2) (.slice t1 re.length t2) M) := F21.out _ hG
      have N22 : Hid (RowM w22 (.slice i1 rc.length i2) rc.length 1 (mkI M)) := hRM
      have L22 : Hid (Bxs w w22 [(Y, #[.slice u1 rk.length u2, .slice v1 rp.length v2, .slice t1 re.length t2], 39), (w6.heap.size, #[.slice k6 ks.length k6', .slice p6 ps.length p6', .slice e6 es.length e6'], 39), (X, #[.slice x1 rk.length x2, .slice y1 rp.length y2, .slice z1 re.length z2], 39), (w.heap.size, #[.slice ak ks.length ck, .slice ap ps.length cp, .slice ae es.length ce], 28)]) := L21.out.grownI I21.out (by omega) hG (fun p hp => by
        simp only [List.mem_cons, List.not_mem_nil, or_false] at hp
        rcases hp with rfl | rfl | rfl | rfl <;> (dsimp only; decide))
      have U22 : Hid (Below w3.heap.size w3 w22) := U21.out.trans ⟨hG.1, hG.2, hG.3, hG.4, fun k hk => hG.5 k (by have := U21.out.size; omega) (fun e => by have := own_ge I21.out k e.symm; omega)⟩
      clear hRM hG L21 I21 F21 U21
      have HE : Hid (∃ M2 : Nat, M + rc.length = M2 ∧ M2 ≤ 30000000) := ⟨_, rfl, by omega⟩
      generalize hMM : M + rc.length = M2 at *
      have hmn : ¬ ((M : Nat) : Int) < 0 := by omega
      have hmn2 : ¬ ((M2 : Nat) : Int) < 0 := by omega
      have hme : (((M2 : Nat) : Int) != ((M2 : Nat) : Int)) = false := by simp
      obtain ⟨g0, g1, g2⟩ : w22.cell? ⟨Y, 0, none⟩ = some (.slice u1 rk.length u2) ∧ w22.cell? ⟨Y, 1, none⟩ = some (.slice v1 rp.length v2) ∧ w22.cell? ⟨Y, 2, none⟩ = some (.slice t1 re.length t2) := ⟨L22.out.cell 0 rfl 0, L22.out.cell 0 rfl 1, L22.out.cell 0 rfl 2⟩
      go_wp2_with fail
      refine (heldBookG_any _ _ _ M _ M22.out).mono ?_
      rintro e w23 ⟨rfl, hb⟩
      have L23 : Hid (Bxs w w23 [(Y, #[.slice u1 rk.length u2, .slice v1 rp.length v2, .slice t1 re.length t2], 39), (w6.heap.size, #[.slice k6 ks.length k6', .slice p6 ps.length p6', .slice e6 es.length e6'], 39), (X, #[.slice x1 rk.length x2, .slice y1 rp.length y2, .slice z1 re.length z2], 39), (w.heap.size, #[.slice ak ks.length ck, .slice ap ps.length cp, .slice ae es.length ce], 28)]) := L22.out.call hb
      have M23 : Hid (BookM w23 (.slice u1 rk.length u2) (.slice v1 rp.length v2) (.slice t1 re.length t2) M) := M22.out.keep hb
      have N23 : Hid (RowM w23 (.slice i1 rc.length i2) rc.length 1 (mkI M)) := N22.out.keep hb
      have U23 : Hid (Below w3.heap.size w3 w23) := below_step U22.out hb
      clear hb L22 M22 N22 U22 g0 g1 g2
      go_wp2_with fail
      refine (heldIntG_any _ rc.length M _ N23.out hRc (by omega)).mono ?_
      rintro e w24 ⟨rfl, hb⟩
      rw [hMM]
      have L24 : Hid (Bxs w w24 [(Y, #[.slice u1 rk.length u2, .slice v1 rp.length v2, .slice t1 re.length t2], 39), (w6.heap.size, #[.slice k6 ks.length k6', .slice p6 ps.length p6', .slice e6 es.length e6'], 39), (X, #[.slice x1 rk.length x2, .slice y1 rp.length y2, .slice z1 re.length z2], 39), (w.heap.size, #[.slice ak ks.length ck, .slice ap ps.length cp, .slice ae es.length ce], 28)]) := L23.out.call hb
      have M24 : Hid (BookM w24 (.slice u1 rk.length u2) (.slice v1 rp.length v2) (.slice t1 re.length t2) M) := M23.out.keep hb
      have N24 : Hid (RowM w24 (.slice i1 rc.length i2) rc.length 1 (mkI M)) := N23.out.keep hb
      have U24 : Hid (Below w3.heap.size w3 w24) := below_step U23.out hb
      clear hb L23 M23 N23 U23
      obtain ⟨a0, a1, a2⟩ : w24.cell? ⟨w.heap.size, 0, none⟩ = some (.slice ak ks.length ck) ∧ w24.cell? ⟨w.heap.size, 1, none⟩ = some (.slice ap ps.length cp) ∧ w24.cell? ⟨w.heap.size, 2, none⟩ = some (.slice ae es.length ce) := ⟨L24.out.cell 3 rfl 0, L24.out.cell 3 rfl 1, L24.out.cell 3 rfl 2⟩
      go_wp2_with fail
      refine (GA.out _ L24.out.below).mono ?_
      rintro e wd ⟨kb, pb, eb, rfl, hBb, hbb⟩
      have HBK : Hid (BookAt wd kb pb eb ks ps es) := hBb.at SS.out
      have HW1 : Hid (Below w24.heap.size w24 wd) := hbb
      clear hBb hbb a0 a1 a2
      go_wp2_with fail
      refine (GB.out _ (below_step L24.out.below HW1.out)).mono ?_
      rintro e we ⟨rfl, hFl⟩
      have HBL : Hid (BookAt we kb pb eb ks ps es ∧ ChgsAt we (.slice (some ⟨wd.heap.size, 0, none⟩) L.length L.length) L) := ⟨HBK.out.keep hFl.below, FilledL.chgs hFl.held rfl HML.out⟩
      have HW2 : Hid (Below w24.heap.size w24 we) := below_step HW1.out hFl.below
      clear HBK HW1 hFl
      go_wp2_with fail
      refine (GI.out _ _ _ _ _ HBL.out.1 HBL.out.2).mono ?_
      rintro e wf ⟨xq, yq, zq, vq, rfl, hNq, hIq, hbq⟩
      obtain ⟨m1, m2, n1, n2, o1, o2, rfl, rfl, rfl⟩ := hNq.slices
      obtain ⟨h1, h2, rfl⟩ := own_slice hIq
      have hb : Below w24.heap.size w24 wf := below_step HW2.out hbq
      have LF : Hid (Bxs w wf [(Y, #[.slice u1 rk.length u2, .slice v1 rp.length v2, .slice t1 re.length t2], 39), (w6.heap.size, #[.slice k6 ks.length k6', .slice p6 ps.length p6', .slice e6 es.length e6'], 39), (X, #[.slice x1 rk.length x2, .slice y1 rp.length y2, .slice z1 re.length z2], 39), (w.heap.size, #[.slice ak ks.length ck, .slice ap ps.length cp, .slice ae es.length ce], 28)]) := L24.out.call hb
      have hal : Below wf.heap.size wf (wf.alloc (.cells #[.slice m1 rk.length m2, .slice n1 rp.length n2, .slice o1 re.length o2] 39)) := (Below.refl _ _).alloc (Nat.le_refl _) _
      have hb2 : Below w24.heap.size w24 (wf.alloc (.cells #[.slice m1 rk.length m2, .slice n1 rp.length n2, .slice o1 re.length o2] 39)) := below_step hb hal
      have L27 : Hid (Bxs w (wf.alloc (.cells #[.slice m1 rk.length m2, .slice n1 rp.length n2, .slice o1 re.length o2] 39)) [(Y, #[.slice u1 rk.length u2, .slice v1 rp.length v2, .slice t1 re.length t2], 39), (w6.heap.size, #[.slice k6 ks.length k6', .slice p6 ps.length p6', .slice e6 es.length e6'], 39), (X, #[.slice x1 rk.length x2, .slice y1 rp.length y2, .slice z1 re.length z2], 39), (w.heap.size, #[.slice ak ks.length ck, .slice ap ps.length cp, .slice ae es.length ce], 28)]) := LF.out.call hal
      have V27 : Hid (BookNew we.heap.size (wf.alloc (.cells #[.slice m1 rk.length m2, .slice n1 rp.length n2, .slice o1 re.length o2] 39)) (.slice m1 rk.length m2) (.slice n1 rp.length n2) (.slice o1 re.length o2) rk rp re) := hNq.keep hal
      have I27 : Hid (IntsNew (wf.alloc (.cells #[.slice m1 rk.length m2, .slice n1 rp.length n2, .slice o1 re.length o2] 39)) we.heap.size (.slice h1 rc.length h2) rc) := IntsNew.keep hIq hal
      have M27 : Hid (BookM (wf.alloc (.cells #[.slice m1 rk.length m2, .slice n1 rp.length n2, .slice o1 re.length o2] 39)) (.slice u1 rk.length u2) (.slice v1 rp.length v2) (.slice t1 re.length t2) M) := M24.out.keep hb2
      have N27 : Hid (RowM (wf.alloc (.cells #[.slice m1 rk.length m2, .slice n1 rp.length n2, .slice o1 re.length o2] 39)) (.slice i1 rc.length i2) rc.length 1 (mkI M)) := N24.out.keep hb2
      have U27 : Hid (Below w3.heap.size w3 (wf.alloc (.cells #[.slice m1 rk.length m2, .slice n1 rp.length n2, .slice o1 re.length o2] 39))) := below_step U24.out hb2
      have hXf : X < wf.heap.size := LF.out.lt (p := (X, #[.slice x1 rk.length x2, .slice y1 rp.length y2, .slice z1 re.length z2], 39)) (by simp)
      obtain ⟨f0, f1, f2⟩ : wf.cell? ⟨X, 0, none⟩ = some (.slice x1 rk.length x2) ∧ wf.cell? ⟨X, 1, none⟩ = some (.slice y1 rp.length y2) ∧ wf.cell? ⟨X, 2, none⟩ = some (.slice z1 re.length z2) := ⟨LF.out.cell 2 rfl 0, LF.out.cell 2 rfl 1, LF.out.cell 2 rfl 2⟩
      clear hNq hIq hbq hb hb2 hal L24 M24 N24 U24 HBL HW2
      go_wp2_with fail
      clear f0 f1 f2 LF
      generalize (wf.alloc (.cells #[.slice m1 rk.length m2, .slice n1 rp.length n2, .slice o1 re.length o2] 39)) = w27 at *
      refine (eqBook_any _ _ _ _ _ _ rk rp re _ V27.out.at (VB.out _ U27.out).at).mono ?_
      rintro e w28 ⟨rfl, hb⟩
      have L28 : Hid (Bxs w w28 [(Y, #[.slice u1 rk.length u2, .slice v1 rp.length v2, .slice t1 re.length t2], 39), (w6.heap.size, #[.slice k6 ks.length k6', .slice p6 ps.length p6', .slice e6 es.length e6'], 39), (X, #[.slice x1 rk.length x2, .slice y1 rp.length y2, .slice z1 re.length z2], 39), (w.heap.size, #[.slice ak ks.length ck, .slice ap ps.length cp, .slice ae es.length ce], 28)]) := L27.out.call hb
      have M28 : Hid (BookM w28 (.slice u1 rk.length u2) (.slice v1 rp.length v2) (.slice t1 re.length t2) M) := M27.out.keep hb
      have N28 : Hid (RowM w28 (.slice i1 rc.length i2) rc.length 1 (mkI M)) := N27.out.keep hb
      have U28 : Hid (Below w3.heap.size w3 w28) := below_step U27.out hb
      have I28 : Hid (IntsNew w28 we.heap.size (.slice h1 rc.length h2) rc) := I27.out.keep hb
      clear hb L27 M27 N27 U27 V27 I27
      go_wp2_with fail
      refine (eqInts_any _ _ rc _ I28.out.at (IB.out _ U28.out).at).mono ?_
      rintro e w29 ⟨rfl, hb⟩
      have L29 : Hid (Bxs w w29 [(Y, #[.slice u1 rk.length u2, .slice v1 rp.length v2, .slice t1 re.length t2], 39), (w6.heap.size, #[.slice k6 ks.length k6', .slice p6 ps.length p6', .slice e6 es.length e6'], 39), (X, #[.slice x1 rk.length x2, .slice y1 rp.length y2, .slice z1 re.length z2], 39), (w.heap.size, #[.slice ak ks.length ck, .slice ap ps.length cp, .slice ae es.length ce], 28)]) := L28.out.call hb
      have M29 : Hid (BookM w29 (.slice u1 rk.length u2) (.slice v1 rp.length v2) (.slice t1 re.length t2) M) := M28.out.keep hb
      have N29 : Hid (RowM w29 (.slice i1 rc.length i2) rc.length 1 (mkI M)) := N28.out.keep hb
      have U29 : Hid (Below w3.heap.size w3 w29) := below_step U28.out hb
      clear hb L28 M28 N28 U28 I28
      obtain ⟨g0, g1, g2⟩ : w29.cell? ⟨Y, 0, none⟩ = some (.slice u1 rk.length u2) ∧ w29.cell? ⟨Y, 1, none⟩ = some (.slice v1 rp.length v2) ∧ w29.cell? ⟨Y, 2, none⟩ = some (.slice t1 re.length t2) := ⟨L29.out.cell 0 rfl 0, L29.out.cell 0 rfl 1, L29.out.cell 0 rfl 2⟩
      go_wp2_with fail
      refine (heldBookG_any _ _ _ M _ M29.out).mono ?_
      rintro e w30 ⟨rfl, hb⟩
      have L30 : Hid (Bxs w w30 [(Y, #[.slice u1 rk.length u2, .slice v1 rp.length v2, .slice t1 re.length t2], 39), (w6.heap.size, #[.slice k6 ks.length k6', .slice p6 ps.length p6', .slice e6 es.length e6'], 39), (X, #[.slice x1 rk.length x2, .slice y1 rp.length y2, .slice z1 re.length z2], 39), (w.heap.size, #[.slice ak ks.length ck, .slice ap ps.length cp, .slice ae es.length ce], 28)]) := L29.out.call hb
      have M30 : Hid (BookM w30 (.slice u1 rk.length u2) (.slice v1 rp.length v2) (.slice t1 re.length t2) M) := M29.out.keep hb
      have N30 : Hid (RowM w30 (.slice i1 rc.length i2) rc.length 1 (mkI M)) := N29.out.keep hb
      have U30 : Hid (Below w3.heap.size w3 w30) := below_step U29.out hb
      clear hb L29 M29 N29 U29 g0 g1 g2
      go_wp2_with fail
      refine (heldIntG_any _ rc.length M _ N30.out hRc (by omega)).mono ?_
      rintro e w31 ⟨rfl, hb⟩
      rw [hMM]
      have L31 : Hid (Bxs w w31 [(Y, #[.slice u1 rk.length u2, .slice v1 rp.length v2, .slice t1 re.length t2], 39), (w6.heap.size, #[.slice k6 ks.length k6', .slice p6 ps.length p6', .slice e6 es.length e6'], 39), (X, #[.slice x1 rk.length x2, .slice y1 rp.length y2, .slice z1 re.length z2], 39), (w.heap.size, #[.slice ak ks.length ck, .slice ap ps.length cp, .slice ae es.length ce], 28)]) := L30.out.call hb
      have M31 : Hid (BookM w31 (.slice u1 rk.length u2) (.slice v1 rp.length v2) (.slice t1 re.length t2) M) := M30.out.keep hb
      have N31 : Hid (RowM w31 (.slice i1 rc.length i2) rc.length 1 (mkI M)) := N30.out.keep hb
      have U31 : Hid (Below w3.heap.size w3 w31) := below_step U30.out hb
      clear hb L30 M30 N30 U30
      go_wp2
      go_ret
      exact ⟨rfl, L31.out.below⟩
    · rw [szR_neg hsz2]
      go_wp2
      go_ret
      exact ⟨rfl, L2.out.below⟩
  · rw [szR_neg hsz]
    go_wp2
    go_ret
    exact ⟨rfl, L1.out.below⟩
end Go.Proofs.YtehpdbbkbdfobabGreat
