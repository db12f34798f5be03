
/-
  The law FnFits.
-/
import Derived.Test.YtibpkhmiahamcaaGreatDoorRt2
import Derived.Test.YtibpkhmiahamcaaGreatDoorDr11
import Derived.Test.YtibpkhmiahamcaaGreatDoorFitsS2
namespace Go.Proofs.YtibpkhmiahamcaaGreatDoor.Dr
open Go.RowKit
set_option linter.unusedSimpArgs false
set_option linter.unusedVariables false

/-- The base and the change that were drawn, in their boxes. -/
structure FX (w z : World) (B : Nat) (kv pv : Value) (ks ps : List Tri) (f : ByteArray) (wh num : Int) (s : ByteArray) : Prop where
  bl : Below w.heap.size w z
  y : z.heap[B]? = some (.cells #[kv, pv] 26 (0, 0))
  x : z.heap[B + 1]? = some (.cells #[.string f, .int .i64 wh, .int .i64 num, .string s] 28 (0, 0))
  tk : TrisAt z kv ks
  tp : TrisAt z pv ps
theorem FX.call {w z z' : World} {B : Nat} {kv pv : Value} {ks ps : List Tri} {f : ByteArray} {wh num : Int} {s : ByteArray} (h : FX w z B kv pv ks ps f wh num s) (hb : Below z.heap.size z z') : FX w z' B kv pv ks ps f wh num s :=
  ⟨below_step h.bl hb, (hb.block _ (lt_blk h.y)).trans h.y, (hb.block _ (lt_blk h.x)).trans h.x, h.tk.keep hb, h.tp.keep hb⟩
theorem FX.cells {w z : World} {B : Nat} {kv pv : Value} {ks ps : List Tri} {f : ByteArray} {wh num : Int} {s : ByteArray} (h : FX w z B kv pv ks ps f wh num s) :
    z.cell? ⟨B, 0, none⟩ = some kv ∧ z.cell? ⟨B, 1, none⟩ = some pv ∧ z.cell? ⟨B + 1, 0, none⟩ = some (.string f) ∧ z.cell? ⟨B + 1, 1, none⟩ = some (.int .i64 wh) ∧ z.cell? ⟨B + 1, 2, none⟩ = some (.int .i64 num) ∧ z.cell? ⟨B + 1, 3, none⟩ = some (.string s) := held6 h.y h.x
theorem FX.start {w w1 : World} {kv pv : Value} {ks ps : List Tri} {f : ByteArray} {wh num : Int} {s : ByteArray} (hb : Below w.heap.size w w1) (hk : TrisAt w1 kv ks) (hp : TrisAt w1 pv ps) :
    FX w ((w1.alloc (.cells #[kv, pv] 26)).alloc (.cells #[.string f, .int .i64 wh, .int .i64 num, .string s] 28)) w1.heap.size kv pv ks ps f wh num s := by
  have hB : Below w1.heap.size w1 ((w1.alloc (.cells #[kv, pv] 26)).alloc (.cells #[.string f, .int .i64 wh, .int .i64 num, .string s] 28)) := ((Below.refl _ _).alloc (Nat.le_refl _) _).alloc (by simp) _
  refine ⟨below_step hb hB, ?_, ?_, hk.keep hB, hp.keep hB⟩
  · rw [(((Below.refl _ _).alloc (Nat.le_refl _) _ : Below (w1.alloc (.cells #[kv, pv] 26)).heap.size (w1.alloc (.cells #[kv, pv] 26)) ((w1.alloc (.cells #[kv, pv] 26)).alloc (.cells #[.string f, .int .i64 wh, .int .i64 num, .string s] 28)))).block _ (by simp)]
    exact heap_newD w1 _
  · have h := heap_newD (w1.alloc (.cells #[kv, pv] 26)) (.cells #[.string f, .int .i64 wh, .int .i64 num, .string s] 28)
    rw [show (w1.alloc (.cells #[kv, pv] 26)).heap.size = w1.heap.size + 1 by simp] at h
    exact h

set_option maxRecDepth 100000 in
set_option maxHeartbeats 6400000 in
theorem lawFits_walk (v1 v2 : Value) (n1 n2 : Nat) (w : World) (h1 : BysArg w v1 n1) (h2 : BysArg w v2 n2) (hs : SaidIn w) (hm : MaxIn w) (ht : Lib.TabIs Tryz.prog w "internal/strconv.uint64pow10" .u64 Lib.pow10Tab) :
    Calls Tryz.prog 3 #[v1, v2] w fun e w' => e = .returned (.bool true) ∧ Below w.heap.size w w' := by
  have H1 := toHid h1
  have H2 := toHid h2
  have HS := toHid hs
  have HM := toHid hm
  have HT := toHid ht
  obtain ⟨a1, c1, rfl, -⟩ := h1
  obtain ⟨a2, c2, rfl, -⟩ := h2
  clear hs hm ht
  by_cases hl1 : (1048576 : Int) < (n1 : Int)
  · go_enter Tryz.func3, Tryz.ntmps3
    go_wp2_with fail
    exact bodyPost_ret (v := .bool true) (by simp [results, Tryz.results3, go_sem]) rfl ⟨rfl, Below.refl _ _⟩
  by_cases hl2 : (1048576 : Int) < (n2 : Int)
  · go_enter Tryz.func3, Tryz.ntmps3
    go_wp2_with fail
    exact bodyPost_ret (v := .bool true) (by simp [results, Tryz.results3, go_sem]) rfl ⟨rfl, Below.refl _ _⟩
  go_enter Tryz.func3, Tryz.ntmps3
  go_wp2_with fail
  refine (drawChangeOk_any _ n1 _ H1.out).mono ?_
  rintro e w1 ⟨kv, pv, ks, ps, ⟨f, wh, num, s⟩, rfl, htk, htp, hkb, hpb, hf, hs, hb1⟩
  dsimp only at hf hs
  have T1 : Hid (TrisAt w1 kv ks ∧ TrisAt w1 pv ps ∧ Below w.heap.size w w1 ∧ kindsB ks = true ∧ pointsB ps = true) := ⟨htk, htp, hb1, hkb, hpb⟩
  obtain ⟨ka, kc, rfl, -⟩ := htk
  obtain ⟨pa, pc, rfl, -⟩ := htp
  clear hkb hpb hb1
  have hBs : baseB ks ps = true := by unfold baseB; rw [T1.out.2.2.2.1, T1.out.2.2.2.2]; rfl
  have HBS := toHid hBs
  have HNM : Hid (Names ks ∧ Names ps ∧ ks.length ≤ 6 ∧ ps.length ≤ 16) :=
    ⟨fun t ht => by have := (kinds_le T1.out.2.2.2.1).2 t ht; unfold maxLen; omega, fun t ht => by have := (points_le T1.out.2.2.2.2).2 t ht; unfold maxLen; omega, (kinds_le T1.out.2.2.2.1).1, (points_le T1.out.2.2.2.2).1⟩
  have X1 : Hid (FX w ((w1.alloc (.cells #[.slice ka ks.length kc, .slice pa ps.length pc] 26)).alloc (.cells #[.string f, .int .i64 wh, .int .i64 num, .string s] 28)) w1.heap.size (.slice ka ks.length kc) (.slice pa ps.length pc) ks ps f wh num s) := FX.start T1.out.2.2.1 T1.out.1 T1.out.2.1
  clear hBs T1
  go_wp2_with fail
  generalize ((w1.alloc (.cells #[.slice ka ks.length kc, .slice pa ps.length pc] 26)).alloc (.cells #[.string f, .int .i64 wh, .int .i64 num, .string s] 28)) = w2 at *
  generalize w1.heap.size = B at *
  refine (changeOk_any _ _ ks ps ⟨f, wh, num, s⟩ _ X1.out.tk X1.out.tp HNM.out.1 HNM.out.2.1 (by show f.size ≤ _; omega) (by show s.size ≤ _; omega)).mono ?_
  rintro e w3 ⟨rfl, hb3⟩
  have X3 := toHid (X1.out.call hb3)
  clear hb3 X1
  obtain ⟨d0, d1, d2, d3, d4, d5⟩ := X3.out.cells
  generalize hok : (baseB ks ps && fitB ks ps ⟨f, wh, num, s⟩) = ok
  have HOK := toHid hok
  clear hok
  go_wp2_with fail
  clear d0 d1 d2 d3 d4 d5
  refine (specChangeOk_any _ _ ks ps ⟨f, wh, num, s⟩ _ X3.out.tk X3.out.tp HNM.out.1 HNM.out.2.1 (by show f.size ≤ _; omega) (by show s.size ≤ _; omega)).mono ?_
  rintro e w4 ⟨rfl, hb4⟩
  rw [HOK.out]
  have X4 := toHid (X3.out.call hb4)
  clear hb4 X3
  obtain ⟨d0, d1, d2, d3, d4, d5⟩ := X4.out.cells
  have hne : (ok != ok) = false := by cases ok <;> rfl
  go_wp2_with fail
  clear d0 d1 d2 d3 d4 d5 hne
  have HBK : Hid (BookAt w4 (.slice ka ks.length kc) (.slice pa ps.length pc) (.slice none 0 0) ks ps []) := ⟨X4.out.tk, X4.out.tp, ⟨none, 0, rfl, Nat.le_refl _, by unfold maxLen; omega, fun i e h => by cases h⟩⟩
  refine (planTake_any _ _ _ ks ps [] ⟨f, wh, num, s⟩ _ HBK.out ⟨HNM.out.1, HNM.out.2.1, (fun e h => by cases h)⟩ ⟨by have := HNM.out.2.2.1; omega, by have := HNM.out.2.2.2; omega, Nat.zero_le _, (fun e h => by cases h), (fun e h => by cases h), (fun e h => by cases h)⟩ (Nat.zero_le _) (by show f.size ≤ _; omega) (by show s.size ≤ _; omega)).mono ?_
  rintro e w5 ⟨bx, bY, bz, rfl, hbn, hb5⟩
  have X5 := toHid (X4.out.call hb5)
  have HTK : Hid ((takeC ks ps [] ⟨f, wh, num, s⟩ == 0) = ok) := by
    show _ = _
    have h1 := takeC_none ks ps ⟨f, wh, num, s⟩
    rw [HOK.out] at h1
    cases ok
    · exact beq_eq_false_iff_ne.2 (fun e => by rw [h1] at e; cases e)
    · exact beq_iff_eq.2 (h1.symm ▸ rfl)
  obtain ⟨xa, xc, rfl⟩ := own_sliceD hbn.k
  obtain ⟨ya, yc, rfl⟩ := own_sliceD hbn.p
  obtain ⟨el, hel, hpn⟩ := hbn.e
  obtain ⟨za, zc, rfl⟩ := own_sliceD hpn.1
  clear hb5 X4 HBK hbn hel hpn
  generalize takeC ks ps [] ⟨f, wh, num, s⟩ = k0 at *
  have hk0 := HTK.out
  have hne : (ok != ok) = false := by cases ok <;> rfl
  have X6 := toHid (X5.out.call ((Below.refl _ _).alloc (Nat.le_refl _) (.cells #[.slice xa (takeT ks ps [] ks).length xc, .slice ya (takeT ks ps [] ps).length yc, .slice za el.length zc] 34)))
  obtain ⟨d0, d1, d2, d3, d4, d5⟩ := X6.out.cells
  go_wp2_with fail
  clear d0 d1 d2 d3 d4 d5 hne hk0 HTK X5
  generalize (w5.alloc (.cells #[.slice xa (takeT ks ps [] ks).length xc, .slice ya (takeT ks ps [] ps).length yc, .slice za el.length zc] 34)) = w6 at *
  refine (planForm_any ⟨f, wh, num, s⟩ _ (HS.out.keep X6.out.bl) (tab_keep HT.out X6.out.bl) (by show f.size ≤ _; omega) (by show s.size ≤ _; omega)).mono ?_
  rintro e w7 ⟨rfl, hb7⟩
  have X7 := toHid (X6.out.call hb7)
  clear hb7 X6
  obtain ⟨⟨df, dw, dn, ds⟩, b, hsp, him, hrb, hrc, -, -⟩ := read_all (theForm ⟨f, wh, num, s⟩) (by have := theForm_le ⟨f, wh, num, s⟩ hf hs; omega)
  have HIM := toHid him
  have HCS : Hid ((formB ⟨f, wh, num, s⟩ = true ∧ b = true ∧ (⟨df, dw, dn, ds⟩ : Chg) = ⟨f, wh, num, s⟩ ∧ (theForm ⟨f, wh, num, s⟩).toList.isEmpty = false) ∨ (b = false ∧ ok = false ∧ theForm ⟨f, wh, num, s⟩ = ⟨#[]⟩)) := by
    show _ ∨ _
    cases hfb : formB ⟨f, wh, num, s⟩
    · right
      have ht0 : theForm ⟨f, wh, num, s⟩ = ⟨#[]⟩ := by unfold theForm; rw [hfb]; rfl
      refine ⟨?_, ?_, ht0⟩
      · cases hb : b
        · rfl
        · obtain ⟨h1, h2⟩ := hrb hb
          rw [ht0] at h2
          unfold theForm at h2
          rw [h1] at h2
          have h3 := congrArg ByteArray.size (show formS ⟨df, dw, dn, ds⟩ = ⟨#[]⟩ from h2)
          unfold formS at h3
          simp only [cat_size] at h3
          have h4 : sSet.size = 4 := rfl
          have h5 : (⟨#[]⟩ : ByteArray).size = 0 := rfl
          omega
      · cases hok : ok
        · rfl
        · have h1 := HOK.out
          rw [hok, Bool.and_eq_true] at h1
          have := fit_form h1.1 h1.2
          rw [hfb] at this
          cases this
    · left
      have ht0 : theForm ⟨f, wh, num, s⟩ = formS ⟨f, wh, num, s⟩ := by unfold theForm; rw [hfb]; rfl
      obtain ⟨h1, h2⟩ := hrc _ hfb ht0.symm
      refine ⟨rfl, h1, h2, ?_⟩
      rw [ht0, ByteArray.toList_eq]
      cases e : (formS ⟨f, wh, num, s⟩).data.toList with
      | cons a l => rfl
      | nil =>
        have h3 : (formS ⟨f, wh, num, s⟩).size = 0 := by
          rw [← bytes_length]
          unfold bytes
          rw [e]
          rfl
        unfold formS at h3
        simp only [cat_size] at h3
        have h4 : sSet.size = 4 := rfl
        omega
  have HTF : Hid ((bif formB ⟨f, wh, num, s⟩ then formS ⟨f, wh, num, s⟩ else ⟨#[]⟩) = theForm ⟨f, wh, num, s⟩) := rfl
  rw [HTF.out]
  clear hsp him hrb hrc HTF
  go_wp2_with fail
  refine (HIM.out _ (HS.out.keep X7.out.bl) (HM.out.keep X7.out.bl)).mono ?_
  rintro e w8 ⟨rfl, hb8⟩
  have X8 := toHid (X7.out.call hb8)
  clear hb8 X7 HIM
  have HSF := toHid (fun wx : World => specForm_any ⟨f, wh, num, s⟩ wx (by show f.size ≤ _; omega) (by show s.size ≤ _; omega))
  rcases HCS.out with ⟨-, rfl, hd, hne⟩ | ⟨rfl, rfl, ht0⟩
  · cases hd
    clear HCS
    generalize theForm ⟨f, wh, num, s⟩ = s0 at *
    have B9 : Hid (Below w8.heap.size w8 (w8.alloc (.cells #[.string f, .int .i64 wh, .int .i64 num, .string s] 28))) := (Below.refl _ _).alloc (Nat.le_refl _) _
    have X9 := toHid (X8.out.call B9.out)
    have Y9 : Hid ((w8.alloc (.cells #[.string f, .int .i64 wh, .int .i64 num, .string s] 28)).heap[w8.heap.size]? = some (.cells #[.string f, .int .i64 wh, .int .i64 num, .string s] 28 (0, 0))) := heap_newD w8 _
    obtain ⟨-, -, d2, d3, d4, d5⟩ := X9.out.cells
    obtain ⟨-, -, g2, g3, g4, g5⟩ := held6 X9.out.y Y9.out
    cases ok
    · go_wp2_with fail
      refine (HSF.out _).mono ?_
      rintro e wA ⟨rfl, hbA⟩
      have XA := toHid (X9.out.call hbA)
      clear hbA X9 Y9 B9 X8 d2 d3 d4 d5 g2 g3 g4 g5
      go_wp2_with fail
      -- the drawn text
      refine (drawRead_any _ n2 _ (H2.out.keep XA.out.bl)).mono ?_
      rintro e wB ⟨t, rfl, htz, hbB⟩
      have HBB : Hid (Below w.heap.size w wB) := below_step XA.out.bl hbB
      clear hbB XA
      obtain ⟨⟨ef, ew, en, es⟩, b2, hsp, him, hrb, -, hes, het⟩ := read_all t (by omega)
      have HSP := toHid hsp
      have HIM := toHid him
      have HRB := toHid hrb
      clear hsp him hrb
      dsimp only at hes het
      go_wp2_with fail
      refine (HIM.out _ (HS.out.keep HBB.out) (HM.out.keep HBB.out)).mono ?_
      rintro e wC ⟨rfl, hbC⟩
      have BD : Hid (Below wC.heap.size wC (wC.alloc (.cells #[.string ef, .int .i64 ew, .int .i64 en, .string es] 28))) := (Below.refl _ _).alloc (Nat.le_refl _) _
      have YD : Hid ((wC.alloc (.cells #[.string ef, .int .i64 ew, .int .i64 en, .string es] 28)).heap[wC.heap.size]? = some (.cells #[.string ef, .int .i64 ew, .int .i64 en, .string es] 28 (0, 0))) := heap_newD wC _
      have HBD : Hid (Below w.heap.size w (wC.alloc (.cells #[.string ef, .int .i64 ew, .int .i64 en, .string es] 28))) := below_step (below_step HBB.out hbC) BD.out
      clear hbC HBB BD
      go_wp2_with fail
      generalize (wC.alloc (.cells #[.string ef, .int .i64 ew, .int .i64 en, .string es] 28)) = wD at *
      generalize wC.heap.size = DB at *
      refine (HSP.out _).mono ?_
      rintro e wE ⟨rfl, hbE⟩
      have BF : Hid (Below wE.heap.size wE (wE.alloc (.cells #[.string ef, .int .i64 ew, .int .i64 en, .string es] 28))) := (Below.refl _ _).alloc (Nat.le_refl _) _
      have YF : Hid ((wE.alloc (.cells #[.string ef, .int .i64 ew, .int .i64 en, .string es] 28)).heap[wE.heap.size]? = some (.cells #[.string ef, .int .i64 ew, .int .i64 en, .string es] 28 (0, 0))) := heap_newD wE _
      have YG : Hid ((wE.alloc (.cells #[.string ef, .int .i64 ew, .int .i64 en, .string es] 28)).heap[DB]? = some (.cells #[.string ef, .int .i64 ew, .int .i64 en, .string es] 28 (0, 0))) := by
        have h1 := (hbE.block _ (lt_blk YD.out)).trans YD.out
        exact (BF.out.block _ (lt_blk h1)).trans h1
      have HBF : Hid (Below w.heap.size w (wE.alloc (.cells #[.string ef, .int .i64 ew, .int .i64 en, .string es] 28))) := below_step (below_step HBD.out hbE) BF.out
      have f0 := cell_blkD YF.out (i := 0) rfl
      have f1 := cell_blkD YF.out (i := 1) rfl
      have f2 := cell_blkD YF.out (i := 2) rfl
      have f3 := cell_blkD YF.out (i := 3) rfl
      have g0 := cell_blkD YG.out (i := 0) rfl
      have g1 := cell_blkD YG.out (i := 1) rfl
      have g2 := cell_blkD YG.out (i := 2) rfl
      have g3 := cell_blkD YG.out (i := 3) rfl
      clear hbE HBD BF YD
      cases b2
      · go_wp2_with fail
        exact bodyPost_ret (v := .bool true) (by simp [results, Tryz.results3, go_sem]) rfl ⟨rfl, HBF.out⟩
      · go_wp2_with fail
        refine (planForm_any ⟨ef, ew, en, es⟩ _ (HS.out.keep HBF.out) (tab_keep HT.out HBF.out) (by show ef.size ≤ _; omega) (by show es.size ≤ _; omega)).mono ?_
        rintro e wG ⟨rfl, hbG⟩
        have HBG : Hid (Below w.heap.size w wG) := below_step HBF.out hbG
        have HTE : Hid ((bif formB ⟨ef, ew, en, es⟩ then formS ⟨ef, ew, en, es⟩ else ⟨#[]⟩) = t) := (HRB.out (by simp)).2
        rw [HTE.out]
        clear hbG HTE f0 f1 f2 f3 g0 g1 g2 g3
        go_wp2_with fail
        exact bodyPost_ret (v := .bool true) (by simp [results, Tryz.results3, go_sem]) rfl ⟨rfl, HBG.out⟩
    · go_wp2_with fail
      refine (HSF.out _).mono ?_
      rintro e wA ⟨rfl, hbA⟩
      have XA := toHid (X9.out.call hbA)
      clear hbA X9 Y9 B9 X8 d2 d3 d4 d5 g2 g3 g4 g5
      go_wp2_with fail
      -- the drawn text
      refine (drawRead_any _ n2 _ (H2.out.keep XA.out.bl)).mono ?_
      rintro e wB ⟨t, rfl, htz, hbB⟩
      have HBB : Hid (Below w.heap.size w wB) := below_step XA.out.bl hbB
      clear hbB XA
      obtain ⟨⟨ef, ew, en, es⟩, b2, hsp, him, hrb, -, hes, het⟩ := read_all t (by omega)
      have HSP := toHid hsp
      have HIM := toHid him
      have HRB := toHid hrb
      clear hsp him hrb
      dsimp only at hes het
      go_wp2_with fail
      refine (HIM.out _ (HS.out.keep HBB.out) (HM.out.keep HBB.out)).mono ?_
      rintro e wC ⟨rfl, hbC⟩
      have BD : Hid (Below wC.heap.size wC (wC.alloc (.cells #[.string ef, .int .i64 ew, .int .i64 en, .string es] 28))) := (Below.refl _ _).alloc (Nat.le_refl _) _
      have YD : Hid ((wC.alloc (.cells #[.string ef, .int .i64 ew, .int .i64 en, .string es] 28)).heap[wC.heap.size]? = some (.cells #[.string ef, .int .i64 ew, .int .i64 en, .string es] 28 (0, 0))) := heap_newD wC _
      have HBD : Hid (Below w.heap.size w (wC.alloc (.cells #[.string ef, .int .i64 ew, .int .i64 en, .string es] 28))) := below_step (below_step HBB.out hbC) BD.out
      clear hbC HBB BD
      go_wp2_with fail
      generalize (wC.alloc (.cells #[.string ef, .int .i64 ew, .int .i64 en, .string es] 28)) = wD at *
      generalize wC.heap.size = DB at *
      refine (HSP.out _).mono ?_
      rintro e wE ⟨rfl, hbE⟩
      have BF : Hid (Below wE.heap.size wE (wE.alloc (.cells #[.string ef, .int .i64 ew, .int .i64 en, .string es] 28))) := (Below.refl _ _).alloc (Nat.le_refl _) _
      have YF : Hid ((wE.alloc (.cells #[.string ef, .int .i64 ew, .int .i64 en, .string es] 28)).heap[wE.heap.size]? = some (.cells #[.string ef, .int .i64 ew, .int .i64 en, .string es] 28 (0, 0))) := heap_newD wE _
      have YG : Hid ((wE.alloc (.cells #[.string ef, .int .i64 ew, .int .i64 en, .string es] 28)).heap[DB]? = some (.cells #[.string ef, .int .i64 ew, .int .i64 en, .string es] 28 (0, 0))) := by
        have h1 := (hbE.block _ (lt_blk YD.out)).trans YD.out
        exact (BF.out.block _ (lt_blk h1)).trans h1
      have HBF : Hid (Below w.heap.size w (wE.alloc (.cells #[.string ef, .int .i64 ew, .int .i64 en, .string es] 28))) := below_step (below_step HBD.out hbE) BF.out
      have f0 := cell_blkD YF.out (i := 0) rfl
      have f1 := cell_blkD YF.out (i := 1) rfl
      have f2 := cell_blkD YF.out (i := 2) rfl
      have f3 := cell_blkD YF.out (i := 3) rfl
      have g0 := cell_blkD YG.out (i := 0) rfl
      have g1 := cell_blkD YG.out (i := 1) rfl
      have g2 := cell_blkD YG.out (i := 2) rfl
      have g3 := cell_blkD YG.out (i := 3) rfl
      clear hbE HBD BF YD
      cases b2
      · go_wp2_with fail
        exact bodyPost_ret (v := .bool true) (by simp [results, Tryz.results3, go_sem]) rfl ⟨rfl, HBF.out⟩
      · go_wp2_with fail
        refine (planForm_any ⟨ef, ew, en, es⟩ _ (HS.out.keep HBF.out) (tab_keep HT.out HBF.out) (by show ef.size ≤ _; omega) (by show es.size ≤ _; omega)).mono ?_
        rintro e wG ⟨rfl, hbG⟩
        have HBG : Hid (Below w.heap.size w wG) := below_step HBF.out hbG
        have HTE : Hid ((bif formB ⟨ef, ew, en, es⟩ then formS ⟨ef, ew, en, es⟩ else ⟨#[]⟩) = t) := (HRB.out (by simp)).2
        rw [HTE.out]
        clear hbG HTE f0 f1 f2 f3 g0 g1 g2 g3
        go_wp2_with fail
        exact bodyPost_ret (v := .bool true) (by simp [results, Tryz.results3, go_sem]) rfl ⟨rfl, HBG.out⟩
  · clear HCS
    rw [ht0] at HSF ⊢
    clear ht0
    have B9 : Hid (Below w8.heap.size w8 (w8.alloc (.cells #[.string df, .int .i64 dw, .int .i64 dn, .string ds] 28))) := (Below.refl _ _).alloc (Nat.le_refl _) _
    have X9 := toHid (X8.out.call B9.out)
    obtain ⟨-, -, d2, d3, d4, d5⟩ := X9.out.cells
    go_wp2_with fail
    refine (HSF.out _).mono ?_
    rintro e wA ⟨rfl, hbA⟩
    have XA := toHid (X9.out.call hbA)
    clear hbA X9 B9 X8 d2 d3 d4 d5
    go_wp2_with fail
    -- the drawn text
    refine (drawRead_any _ n2 _ (H2.out.keep XA.out.bl)).mono ?_
    rintro e wB ⟨t, rfl, htz, hbB⟩
    have HBB : Hid (Below w.heap.size w wB) := below_step XA.out.bl hbB
    clear hbB XA
    obtain ⟨⟨ef, ew, en, es⟩, b2, hsp, him, hrb, -, hes, het⟩ := read_all t (by omega)
    have HSP := toHid hsp
    have HIM := toHid him
    have HRB := toHid hrb
    clear hsp him hrb
    dsimp only at hes het
    go_wp2_with fail
    refine (HIM.out _ (HS.out.keep HBB.out) (HM.out.keep HBB.out)).mono ?_
    rintro e wC ⟨rfl, hbC⟩
    have BD : Hid (Below wC.heap.size wC (wC.alloc (.cells #[.string ef, .int .i64 ew, .int .i64 en, .string es] 28))) := (Below.refl _ _).alloc (Nat.le_refl _) _
    have YD : Hid ((wC.alloc (.cells #[.string ef, .int .i64 ew, .int .i64 en, .string es] 28)).heap[wC.heap.size]? = some (.cells #[.string ef, .int .i64 ew, .int .i64 en, .string es] 28 (0, 0))) := heap_newD wC _
    have HBD : Hid (Below w.heap.size w (wC.alloc (.cells #[.string ef, .int .i64 ew, .int .i64 en, .string es] 28))) := below_step (below_step HBB.out hbC) BD.out
    clear hbC HBB BD
    go_wp2_with fail
    generalize (wC.alloc (.cells #[.string ef, .int .i64 ew, .int .i64 en, .string es] 28)) = wD at *
    generalize wC.heap.size = DB at *
    refine (HSP.out _).mono ?_
    rintro e wE ⟨rfl, hbE⟩
    have BF : Hid (Below wE.heap.size wE (wE.alloc (.cells #[.string ef, .int .i64 ew, .int .i64 en, .string es] 28))) := (Below.refl _ _).alloc (Nat.le_refl _) _
    have YF : Hid ((wE.alloc (.cells #[.string ef, .int .i64 ew, .int .i64 en, .string es] 28)).heap[wE.heap.size]? = some (.cells #[.string ef, .int .i64 ew, .int .i64 en, .string es] 28 (0, 0))) := heap_newD wE _
    have YG : Hid ((wE.alloc (.cells #[.string ef, .int .i64 ew, .int .i64 en, .string es] 28)).heap[DB]? = some (.cells #[.string ef, .int .i64 ew, .int .i64 en, .string es] 28 (0, 0))) := by
      have h1 := (hbE.block _ (lt_blk YD.out)).trans YD.out
      exact (BF.out.block _ (lt_blk h1)).trans h1
    have HBF : Hid (Below w.heap.size w (wE.alloc (.cells #[.string ef, .int .i64 ew, .int .i64 en, .string es] 28))) := below_step (below_step HBD.out hbE) BF.out
    have f0 := cell_blkD YF.out (i := 0) rfl
    have f1 := cell_blkD YF.out (i := 1) rfl
    have f2 := cell_blkD YF.out (i := 2) rfl
    have f3 := cell_blkD YF.out (i := 3) rfl
    have g0 := cell_blkD YG.out (i := 0) rfl
    have g1 := cell_blkD YG.out (i := 1) rfl
    have g2 := cell_blkD YG.out (i := 2) rfl
    have g3 := cell_blkD YG.out (i := 3) rfl
    clear hbE HBD BF YD
    cases b2
    · go_wp2_with fail
      exact bodyPost_ret (v := .bool true) (by simp [results, Tryz.results3, go_sem]) rfl ⟨rfl, HBF.out⟩
    · go_wp2_with fail
      refine (planForm_any ⟨ef, ew, en, es⟩ _ (HS.out.keep HBF.out) (tab_keep HT.out HBF.out) (by show ef.size ≤ _; omega) (by show es.size ≤ _; omega)).mono ?_
      rintro e wG ⟨rfl, hbG⟩
      have HBG : Hid (Below w.heap.size w wG) := below_step HBF.out hbG
      have HTE : Hid ((bif formB ⟨ef, ew, en, es⟩ then formS ⟨ef, ew, en, es⟩ else ⟨#[]⟩) = t) := (HRB.out (by simp)).2
      rw [HTE.out]
      clear hbG HTE f0 f1 f2 f3 g0 g1 g2 g3
      go_wp2_with fail
      exact bodyPost_ret (v := .bool true) (by simp [results, Tryz.results3, go_sem]) rfl ⟨rfl, HBG.out⟩
end Go.Proofs.YtibpkhmiahamcaaGreatDoor.Dr
