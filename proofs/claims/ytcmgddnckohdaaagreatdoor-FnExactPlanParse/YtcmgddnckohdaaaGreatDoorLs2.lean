import Derived.Test.YtcmgddnckohdaaaGreatDoorLs1
import Derived.Test.YtcmgddnckohdaaaGreatDoorLk2
namespace Go.Proofs.YtcmgddnckohdaaaGreatDoor.Tx
open Go.RowKit Go.Proofs.YtcmgddnckohdaaaGreatDoor Go.Proofs.YtcmgddnckohdaaaGreatDoor.Sd
set_option linter.unusedSimpArgs false
set_option linter.unusedVariables false
structure TD (w : World) (B : Array Value) (w1 : World) : Prop where
  c1 : w1.heap[w.heap.size]? = some (.cells B 30 (0, 0))
  c2 : w1.heap[w.heap.size + 1]? = some (.cells #[.slice none 0 0, .slice none 0 0, .slice none 0 0] 30 (0, 0))
  b : Below w.heap.size w w1
theorem TD.keep {w w1 w2 : World} {B : Array Value} (h : TD w B w1) (hb : Below w1.heap.size w1 w2) : TD w B w2 :=
  ⟨(hb.block _ (Array.getElem?_eq_some_iff.1 h.c1).1).trans h.c1, (hb.block _ (Array.getElem?_eq_some_iff.1 h.c2).1).trans h.c2, below_step h.b hb⟩
theorem TD.start {w w1 : World} {B : Array Value} (hb : Below ((w.alloc (.cells B 30)).alloc (.cells #[.slice none 0 0, .slice none 0 0, .slice none 0 0] 30)).heap.size ((w.alloc (.cells B 30)).alloc (.cells #[.slice none 0 0, .slice none 0 0, .slice none 0 0] 30)) w1) : TD w B w1 := by
  refine ⟨(hb.block _ (by simp; omega)).trans (heap_old w _ _), (hb.block _ (by simp)).trans ?_, below_step (((Below.refl _ _).alloc (Nat.le_refl _) _).alloc (by simp) _) hb⟩
  have h := heap_newF (w.alloc (.cells B 30)) (.cells #[.slice none 0 0, .slice none 0 0, .slice none 0 0] 30)
  rw [World.size_alloc] at h
  exact h
theorem TD.cells {w w1 : World} {x y z : Value} (h : TD w #[x, y, z] w1) : (w1.cell? ⟨w.heap.size, 0, none⟩ = some x ∧ w1.cell? ⟨w.heap.size, 1, none⟩ = some y ∧ w1.cell? ⟨w.heap.size, 2, none⟩ = some z) ∧ w.heap.size < w1.heap.size ∧ w.heap.size + 1 < w1.heap.size := by
  obtain ⟨c1, c2, -⟩ := h
  exact ⟨⟨by simp [World.cell?, c1], by simp [World.cell?, c1], by simp [World.cell?, c1]⟩, (Array.getElem?_eq_some_iff.1 c1).1, (Array.getElem?_eq_some_iff.1 c2).1⟩
set_option maxRecDepth 100000 in
set_option maxHeartbeats 6400000 in
theorem l5Set_any (s : ByteArray) (vk vp ve : Value) (b : Bk) (w : World) (hB : BookAt w vk vp ve b.1 b.2.1 b.2.2) (hS : SmB b) (hs : s.size ≤ 1048576) :
    Calls Tryz.prog 69 #[.agg #[vk, vp, ve], .string s] w fun e w' => Below w.heap.size w w' ∧
      ((setC b (rdS s) ≠ 0 ∧ e = .returned (.tuple #[.agg #[vk, vp, ve], .int .i64 (setC b (rdS s))])) ∨
       (setC b (rdS s) = 0 ∧ ∃ x y z, e = .returned (.tuple #[.agg #[x, y, z], .int .i64 0]) ∧ BookNew w.heap.size w' x y z (takeT b.1 b.2.1 b.2.2 b.1) (takeT b.1 b.2.1 b.2.2 b.2.1) (takeE b.1 b.2.1 b.2.2 (rdS s).1))) := by
  obtain ⟨hrd, -, -, -, hf, hv⟩ := rdS_all s hs
  have HRD := toHidC hrd
  have HB := toHidC hB
  have HPT : Hid (∀ wx : World, Below w.heap.size w wx → Calls Tryz.prog 109 #[.agg #[vk, vp, ve], .agg #[.string (rdS s).1.f, .int .i64 (rdS s).1.what, .int .i64 (rdS s).1.num, .string (rdS s).1.v]] wx fun e w' => ∃ x y z, e = .returned (.tuple #[.agg #[x, y, z], .int .i64 (takeC b.1 b.2.1 b.2.2 (rdS s).1)]) ∧ BookNew wx.heap.size w' x y z (takeT b.1 b.2.1 b.2.2 b.1) (takeT b.1 b.2.1 b.2.2 b.2.1) (takeE b.1 b.2.1 b.2.2 (rdS s).1) ∧ Below wx.heap.size wx w') := fun wx hx => specTake_any vk vp ve b.1 b.2.1 b.2.2 (rdS s).1 wx (HB.out.keep hx) hS.n hS.s (by omega) (by omega)
  have HSC : Hid (setC b (rdS s) = bif (rdS s).2 then (if takeC b.1 b.2.1 b.2.2 (rdS s).1 = 2 then 7 else if takeC b.1 b.2.1 b.2.2 (rdS s).1 = 3 then 6 else 0) else 3) := rfl
  generalize setC b (rdS s) = sc at *
  generalize takeC b.1 b.2.1 b.2.2 (rdS s).1 = tc at *
  generalize takeE b.1 b.2.1 b.2.2 (rdS s).1 = te at *
  generalize rdS s = r at *
  obtain ⟨d, ok⟩ := r
  dsimp only at *
  clear hrd hf hv
  obtain ⟨⟨ak, ck, rfl, -, -, -⟩, ⟨ap, cp, rfl, -, -, -⟩, ⟨ae, ce, rfl, -, -, -⟩⟩ := hB
  go_enter Tryz.func69, Tryz.ntmps69
  go_wp2_with fail
  refine (HRD.out _).mono ?_
  rintro e w1 ⟨rfl, hb1⟩
  have H1 : Hid (TD w #[.slice ak b.1.length ck, .slice ap b.2.1.length cp, .slice ae b.2.2.length ce] w1) := TD.start hb1
  clear hb1
  have HA1 : Hid (Below w1.heap.size w1 (w1.alloc (.cells #[.string d.f, .int .i64 d.what, .int .i64 d.num, .string d.v] 76))) := (Below.refl _ _).alloc (Nat.le_refl _) _
  have H2 : Hid (TD w #[.slice ak b.1.length ck, .slice ap b.2.1.length cp, .slice ae b.2.2.length ce] (w1.alloc (.cells #[.string d.f, .int .i64 d.what, .int .i64 d.num, .string d.v] 76))) := H1.out.keep HA1.out
  obtain ⟨⟨d0, d1, d2⟩, z1, z2⟩ := H1.out.cells
  have g2 := H1.out.c2
  have g3 := H2.out.c2
  cases ok
  · skip
    have hkc : Hid (sc = 3) := HSC.out
    go_wp2_with (refine wpList_store_row rfl 30 _ _ rfl (w.heap.size + 1) #[.slice ak b.1.length ck, .slice ap b.2.1.length cp, .slice ae b.2.2.length ce] rfl rfl 30 _ g3 (by kernel_rfl) rfl (by simp [Value.oneCell']) ?_)
    exact bodyPost_ret (v := .tuple #[.agg #[.slice ak b.1.length ck, .slice ap b.2.1.length cp, .slice ae b.2.2.length ce], .int .i64 (3)]) (by simp [results, Tryz.results69, go_sem, cell_setRow_same _ _ _ _ _ _ _ g3]) rfl ⟨below_setRow H2.out.b (by omega) _, .inl ⟨by rw [hkc.out]; decide, by rw [hkc.out]⟩⟩
  · clear g3
    go_wp2_with fail
    refine (HPT.out _ H2.out.b).mono ?_
    rintro e w2 ⟨x, y, z, rfl, hn2, hb2⟩
    have H3 : Hid (TD w #[.slice ak b.1.length ck, .slice ap b.2.1.length cp, .slice ae b.2.2.length ce] w2) := H2.out.keep hb2
    have HN2 : Hid (BookNew (w.heap.size + 2) w2 x y z (takeT b.1 b.2.1 b.2.2 b.1) (takeT b.1 b.2.1 b.2.2 b.2.1) te) := hn2.mono (by rw [World.size_alloc]; omega)
    obtain ⟨a1, c1, a2, c2, a3, c3, rfl, rfl, rfl⟩ := hn2.slices
    clear hn2 hb2 HA1 H1 H2
    clear d0 d1 d2 z1 z2 g2
    have HA2 : Hid (Below w2.heap.size w2 (w2.alloc (.cells #[.slice a1 (takeT b.1 b.2.1 b.2.2 b.1).length c1, .slice a2 (takeT b.1 b.2.1 b.2.2 b.2.1).length c2, .slice a3 te.length c3] 30))) := (Below.refl _ _).alloc (Nat.le_refl _) _
    have H4 : Hid (TD w #[.slice ak b.1.length ck, .slice ap b.2.1.length cp, .slice ae b.2.2.length ce] (w2.alloc (.cells #[.slice a1 (takeT b.1 b.2.1 b.2.2 b.1).length c1, .slice a2 (takeT b.1 b.2.1 b.2.2 b.2.1).length c2, .slice a3 te.length c3] 30))) := H3.out.keep HA2.out
    obtain ⟨⟨d0, d1, d2⟩, z1, z2⟩ := H3.out.cells
    have g2 := H3.out.c2
    have g3 := H4.out.c2
    by_cases h2 : tc = 2
    · have e2 : (tc == 2) = true := by simp [h2]
      have HS7 : Hid (sc = 7) := HSC.out.trans (by rw [if_pos h2]; rfl)
      clear h2 HSC
      have hkc : Hid (sc = 7) := HS7.out
      go_wp2_with (refine wpList_store_row rfl 30 _ _ rfl (w.heap.size + 1) #[.slice ak b.1.length ck, .slice ap b.2.1.length cp, .slice ae b.2.2.length ce] rfl rfl 30 _ g3 (by kernel_rfl) rfl (by simp [Value.oneCell']) ?_)
      exact bodyPost_ret (v := .tuple #[.agg #[.slice ak b.1.length ck, .slice ap b.2.1.length cp, .slice ae b.2.2.length ce], .int .i64 (7)]) (by simp [results, Tryz.results69, go_sem, cell_setRow_same _ _ _ _ _ _ _ g3]) rfl ⟨below_setRow H4.out.b (by omega) _, .inl ⟨by rw [hkc.out]; decide, by rw [hkc.out]⟩⟩
    · have e2 : (tc == 2) = false := by simp [h2]
      by_cases h3 : tc = 3
      · have e3 : (tc == 3) = true := by simp [h3]
        have HS6 : Hid (sc = 6) := HSC.out.trans (by rw [if_neg h2, if_pos h3]; rfl)
        clear h2 h3 HSC
        have hkc : Hid (sc = 6) := HS6.out
        go_wp2_with (refine wpList_store_row rfl 30 _ _ rfl (w.heap.size + 1) #[.slice ak b.1.length ck, .slice ap b.2.1.length cp, .slice ae b.2.2.length ce] rfl rfl 30 _ g3 (by kernel_rfl) rfl (by simp [Value.oneCell']) ?_)
        exact bodyPost_ret (v := .tuple #[.agg #[.slice ak b.1.length ck, .slice ap b.2.1.length cp, .slice ae b.2.2.length ce], .int .i64 (6)]) (by simp [results, Tryz.results69, go_sem, cell_setRow_same _ _ _ _ _ _ _ g3]) rfl ⟨below_setRow H4.out.b (by omega) _, .inl ⟨by rw [hkc.out]; decide, by rw [hkc.out]⟩⟩
      · have e3 : (tc == 3) = false := by simp [h3]
        have HS0 : Hid (sc = 0) := HSC.out.trans (by rw [if_neg h2, if_neg h3]; rfl)
        clear h2 h3 HSC
        go_wp2_with (refine wpList_store_row rfl 30 _ _ rfl (w.heap.size + 1) #[.slice a1 (takeT b.1 b.2.1 b.2.2 b.1).length c1, .slice a2 (takeT b.1 b.2.1 b.2.2 b.2.1).length c2, .slice a3 te.length c3] rfl rfl 30 _ g3 (by kernel_rfl) rfl (by simp [Value.oneCell']) ?_)
        exact bodyPost_ret (v := .tuple #[.agg #[.slice a1 (takeT b.1 b.2.1 b.2.2 b.1).length c1, .slice a2 (takeT b.1 b.2.1 b.2.2 b.2.1).length c2, .slice a3 te.length c3], .int .i64 (0)]) (by simp [results, Tryz.results69, go_sem, cell_setRow_same _ _ _ _ _ _ _ g3]) rfl ⟨below_setRow H4.out.b (by omega) _, .inr ⟨HS0.out, _, _, _, rfl, ((HN2.out.keep HA2.out).far (grown_rowF _ (w.heap.size + 1) _) (by omega)).mono (by omega)⟩⟩
set_option maxRecDepth 100000 in
set_option maxHeartbeats 6400000 in
theorem l5Line_any (s : ByteArray) (vk vp ve : Value) (b : Bk) (w : World) (hB : BookAt w vk vp ve b.1 b.2.1 b.2.2) (hG : Gd b) (hs : s.size ≤ 1048576) :
    Calls Tryz.prog 33 #[.agg #[vk, vp, ve], .string s] w fun e w' => Below w.heap.size w w' ∧
      ((lineC rdS b s ≠ 0 ∧ e = .returned (.tuple #[.agg #[vk, vp, ve], .int .i64 (lineC rdS b s)])) ∨
       (lineC rdS b s = 0 ∧ ∃ x y z, e = .returned (.tuple #[.agg #[x, y, z], .int .i64 0]) ∧ BookAt w' x y z (lineB rdS b s).1 (lineB rdS b s).2.1 (lineB rdS b s).2.2)) := by
  have HB := toHidC hB
  have HG := toHidC hG
  obtain ⟨⟨ak, ck, rfl, -, -, -⟩, ⟨ap, cp, rfl, -, -, -⟩, ⟨ae, ce, rfl, -, -, -⟩⟩ := hB
  clear hG
  have HPO : Hid (0 < (cutW s).length) := by show _ < _; unfold cutW; rw [List.length_map]; have := cut_pos (bytes s) []; omega
  have HSZ : Hid (∀ i, i < (cutW s).length → (wat (cutW s) i).size ≤ 1048576) := fun i hi => Nat.le_trans (wat_size hi) hs
  have HL1 : Hid (wat (cutW s) 0 = kindS → lineC rdS b s = kindC b.1 (cutW s) ∧ lineB rdS b s = (insT b.1 (plc b.1 (triW (cutW s)).s) (triW (cutW s)), b.2.1, b.2.2)) := fun h => ⟨by unfold lineC; rw [if_pos h], by unfold lineB; rw [if_pos h]⟩
  have HL2 : Hid (wat (cutW s) 0 = pointS → lineC rdS b s = pointC b.2.1 (cutW s) ∧ lineB rdS b s = (b.1, insT b.2.1 (plc b.2.1 (triW (cutW s)).s) (triW (cutW s)), b.2.2)) := fun h => by
    have hn : wat (cutW s) 0 ≠ kindS := by rw [h]; decide
    exact ⟨by unfold lineC; rw [if_neg hn, if_pos h], by unfold lineB; rw [if_neg hn, if_pos h]⟩
  have HL3 : Hid (wat (cutW s) 0 = setS → lineC rdS b s = setC b (rdS s) ∧ lineB rdS b s = (takeT b.1 b.2.1 b.2.2 b.1, takeT b.1 b.2.1 b.2.2 b.2.1, takeE b.1 b.2.1 b.2.2 (rdS s).1)) := fun h => by
    have hn : wat (cutW s) 0 ≠ kindS := by rw [h]; decide
    have hm : wat (cutW s) 0 ≠ pointS := by rw [h]; decide
    exact ⟨by unfold lineC; rw [if_neg hn, if_neg hm, if_pos h], by unfold lineB; rw [if_neg hn, if_neg hm]⟩
  have HL4 : Hid (wat (cutW s) 0 ≠ kindS → wat (cutW s) 0 ≠ pointS → wat (cutW s) 0 ≠ setS → lineC rdS b s = 2) := fun h1 h2 h3 => by unfold lineC; rw [if_neg h1, if_neg h2, if_neg h3]
  have HTK : Hid (∀ (wx : World) (vw : Value), Below w.heap.size w wx → StrsAt wx vw (cutW s) → Calls Tryz.prog 67 #[.agg #[.slice ak b.1.length ck, .slice ap b.2.1.length cp, .slice ae b.2.2.length ce], vw] wx fun e w' => Below wx.heap.size wx w' ∧
      ((kindC b.1 (cutW s) ≠ 0 ∧ e = .returned (.tuple #[.agg #[.slice ak b.1.length ck, .slice ap b.2.1.length cp, .slice ae b.2.2.length ce], .int .i64 (kindC b.1 (cutW s))])) ∨
       (kindC b.1 (cutW s) = 0 ∧ ∃ u, e = .returned (.tuple #[.agg #[u, .slice ap b.2.1.length cp, .slice ae b.2.2.length ce], .int .i64 0]) ∧ w'.ownsRow wx.heap.size 69 3 u (b.1.length + 1) (triRows (insT b.1 (plc b.1 (triW (cutW s)).s) (triW (cutW s))))))) := fun wx vw hx hw => l5Kind_any _ vw ap ae _ cp _ ce b.1 (cutW s) wx (HB.out.k.keep hx) hw HG.out.klen HSZ.out ((kinds_iff _).1 HG.out.k).2.2
  have HTP : Hid (∀ (wx : World) (vw : Value), Below w.heap.size w wx → StrsAt wx vw (cutW s) → Calls Tryz.prog 68 #[.agg #[.slice ak b.1.length ck, .slice ap b.2.1.length cp, .slice ae b.2.2.length ce], vw] wx fun e w' => Below wx.heap.size wx w' ∧
      ((pointC b.2.1 (cutW s) ≠ 0 ∧ e = .returned (.tuple #[.agg #[.slice ak b.1.length ck, .slice ap b.2.1.length cp, .slice ae b.2.2.length ce], .int .i64 (pointC b.2.1 (cutW s))])) ∨
       (pointC b.2.1 (cutW s) = 0 ∧ ∃ u, e = .returned (.tuple #[.agg #[.slice ak b.1.length ck, u, .slice ae b.2.2.length ce], .int .i64 0]) ∧ w'.ownsRow wx.heap.size 72 3 u (b.2.1.length + 1) (triRows (insT b.2.1 (plc b.2.1 (triW (cutW s)).s) (triW (cutW s))))))) := fun wx vw hx hw => l5Point_any _ vw ak ae _ ck _ ce b.2.1 (cutW s) wx (HB.out.p.keep hx) hw HG.out.plen HSZ.out ((points_iff _).1 HG.out.p).2.2.1
  have HTC : Hid (∀ wx : World, Below w.heap.size w wx → Calls Tryz.prog 69 #[.agg #[.slice ak b.1.length ck, .slice ap b.2.1.length cp, .slice ae b.2.2.length ce], .string s] wx fun e w' => Below wx.heap.size wx w' ∧
      ((setC b (rdS s) ≠ 0 ∧ e = .returned (.tuple #[.agg #[.slice ak b.1.length ck, .slice ap b.2.1.length cp, .slice ae b.2.2.length ce], .int .i64 (setC b (rdS s))])) ∨
       (setC b (rdS s) = 0 ∧ ∃ x y z, e = .returned (.tuple #[.agg #[x, y, z], .int .i64 0]) ∧ BookNew wx.heap.size w' x y z (takeT b.1 b.2.1 b.2.2 b.1) (takeT b.1 b.2.1 b.2.2 b.2.1) (takeE b.1 b.2.1 b.2.2 (rdS s).1)))) := fun wx hx => l5Set_any s _ _ _ b wx (HB.out.keep hx) HG.out.sm hs
  have HCUT : Hid (∀ wx : World, Calls Tryz.prog 54 #[.string s, .int .u8 32] wx fun e w' => ∃ v, e = .returned v ∧ StrsAt w' v (cutW s) ∧ Below wx.heap.size wx w') := fun wx => (l2Cut_new s wx hs).mono fun e w' ⟨v, he, hn, hb⟩ => ⟨v, he, strs_of_own hn (fun e => by have h : 0 < (cutW s).length := HPO.out; rw [e] at h; simp at h), hb⟩
  generalize lineC rdS b s = lc at *
  generalize lineB rdS b s = lb at *
  go_enter Tryz.func33, Tryz.ntmps33
  go_wp2_with fail
  refine (HCUT.out _).mono ?_
  rintro e w1 ⟨v, rfl, hv1, hb1⟩
  have H1 : Hid (TD w #[.slice ak b.1.length ck, .slice ap b.2.1.length cp, .slice ae b.2.2.length ce] w1) := TD.start hb1
  have HV := toHidC hv1
  obtain ⟨wb, wo, wcp, rfl, hwl, hwm, -⟩ := hv1
  unfold maxLen at hwm
  have y0 : w1.cell? ⟨wb, wo, none⟩ = some (.string (wat (cutW s) 0)) := HV.out.cellS 0 HPO.out
  have hpi : (0 : Int) < ((cutW s).length : Int) := by have h : 0 < (cutW s).length := HPO.out; omega
  have ez := lt_of_cell y0
  generalize wat (cutW s) 0 = wd at *
  clear hb1
  obtain ⟨⟨d0, d1, d2⟩, z1, z2⟩ := H1.out.cells
  have g2 := H1.out.c2
  by_cases e1 : wd = kindS
  · have b1 : (wd.toList == [107, 105, 110, 100]) = true := kindS_list ▸ str_eq e1
    obtain ⟨HE1, HE2⟩ := HL1.out e1
    clear HL1 HL2 HL3 HL4 HTP HTC e1
    go_wp2_with fail
    refine (HTK.out _ _ H1.out.b HV.out).mono ?_
    rintro e w3 ⟨hb3, ⟨hc, rfl⟩ | ⟨hc, u, rfl, hu⟩⟩
    · have H3 : Hid (TD w #[.slice ak b.1.length ck, .slice ap b.2.1.length cp, .slice ae b.2.2.length ce] w3) := H1.out.keep hb3
      have HC : Hid (lc ≠ 0 ∧ lc = kindC b.1 (cutW s)) := ⟨by rw [HE1]; exact hc, HE1⟩
      clear hc HE1 HE2
      have g3 := H3.out.c2
      go_wp2_with (refine wpList_store_row rfl 30 _ _ rfl (w.heap.size + 1) #[.slice ak b.1.length ck, .slice ap b.2.1.length cp, .slice ae b.2.2.length ce] rfl rfl 30 _ g3 (by kernel_rfl) rfl (by simp [Value.oneCell']) ?_)
      exact bodyPost_ret (v := .tuple #[.agg #[.slice ak b.1.length ck, .slice ap b.2.1.length cp, .slice ae b.2.2.length ce], .int .i64 (kindC b.1 (cutW s))]) (by simp [results, Tryz.results33, go_sem, cell_setRow_same _ _ _ _ _ _ _ g3]) rfl ⟨below_setRow H3.out.b (by omega) _, .inl ⟨HC.out.1, by rw [HC.out.2]⟩⟩
    · have H3 : Hid (TD w #[.slice ak b.1.length ck, .slice ap b.2.1.length cp, .slice ae b.2.2.length ce] w3) := H1.out.keep hb3
      have HK3 : Hid (BookAt w3 (.slice ak b.1.length ck) (.slice ap b.2.1.length cp) (.slice ae b.2.2.length ce) b.1 b.2.1 b.2.2) := HB.out.keep H3.out.b
      have HNB : Hid (BookAt w3 u (.slice ap b.2.1.length cp) (.slice ae b.2.2.length ce) lb.1 lb.2.1 lb.2.2) := by
        rw [HE2]
        exact ⟨tris_new (by rw [ins_len]; exact hu), HK3.out.p, HK3.out.e⟩
      obtain ⟨ua, uc, rfl⟩ := own_slice hu
      have HC : Hid (lc = 0) := HE1.trans hc
      clear hc HE1 HE2 hb3
      have g3 := H3.out.c2
      go_wp2_with (refine wpList_store_row rfl 30 _ _ rfl (w.heap.size + 1) #[.slice ua (b.1.length + 1) uc, .slice ap b.2.1.length cp, .slice ae b.2.2.length ce] rfl rfl 30 _ g3 (by kernel_rfl) rfl (by simp [Value.oneCell']) ?_)
      exact bodyPost_ret (v := .tuple #[.agg #[.slice ua (b.1.length + 1) uc, .slice ap b.2.1.length cp, .slice ae b.2.2.length ce], .int .i64 (0)]) (by simp [results, Tryz.results33, go_sem, cell_setRow_same _ _ _ _ _ _ _ g3]) rfl ⟨below_setRow H3.out.b (by omega) _, .inr ⟨HC.out, _, _, _, rfl, BookAt_row3 HNB.out g3 _⟩⟩
  · have b1 : (wd.toList == [107, 105, 110, 100]) = false := kindS_list ▸ str_ne e1
    by_cases e2 : wd = pointS
    · have b2 : (wd.toList == [112, 111, 105, 110, 116]) = true := pointS_list ▸ str_eq e2
      obtain ⟨HE1, HE2⟩ := HL2.out e2
      clear HL1 HL2 HL3 HL4 HTK HTC e1 e2
      go_wp2_with fail
      refine (HTP.out _ _ H1.out.b HV.out).mono ?_
      rintro e w3 ⟨hb3, ⟨hc, rfl⟩ | ⟨hc, u, rfl, hu⟩⟩
      · have H3 : Hid (TD w #[.slice ak b.1.length ck, .slice ap b.2.1.length cp, .slice ae b.2.2.length ce] w3) := H1.out.keep hb3
        have HC : Hid (lc ≠ 0 ∧ lc = pointC b.2.1 (cutW s)) := ⟨by rw [HE1]; exact hc, HE1⟩
        clear hc HE1 HE2
        have g3 := H3.out.c2
        go_wp2_with (refine wpList_store_row rfl 30 _ _ rfl (w.heap.size + 1) #[.slice ak b.1.length ck, .slice ap b.2.1.length cp, .slice ae b.2.2.length ce] rfl rfl 30 _ g3 (by kernel_rfl) rfl (by simp [Value.oneCell']) ?_)
        exact bodyPost_ret (v := .tuple #[.agg #[.slice ak b.1.length ck, .slice ap b.2.1.length cp, .slice ae b.2.2.length ce], .int .i64 (pointC b.2.1 (cutW s))]) (by simp [results, Tryz.results33, go_sem, cell_setRow_same _ _ _ _ _ _ _ g3]) rfl ⟨below_setRow H3.out.b (by omega) _, .inl ⟨HC.out.1, by rw [HC.out.2]⟩⟩
      · have H3 : Hid (TD w #[.slice ak b.1.length ck, .slice ap b.2.1.length cp, .slice ae b.2.2.length ce] w3) := H1.out.keep hb3
        have HK3 : Hid (BookAt w3 (.slice ak b.1.length ck) (.slice ap b.2.1.length cp) (.slice ae b.2.2.length ce) b.1 b.2.1 b.2.2) := HB.out.keep H3.out.b
        have HNB : Hid (BookAt w3 (.slice ak b.1.length ck) u (.slice ae b.2.2.length ce) lb.1 lb.2.1 lb.2.2) := by
          rw [HE2]
          exact ⟨HK3.out.k, tris_new (by rw [ins_len]; exact hu), HK3.out.e⟩
        obtain ⟨ua, uc, rfl⟩ := own_slice hu
        have HC : Hid (lc = 0) := HE1.trans hc
        clear hc HE1 HE2 hb3
        have g3 := H3.out.c2
        go_wp2_with (refine wpList_store_row rfl 30 _ _ rfl (w.heap.size + 1) #[.slice ak b.1.length ck, .slice ua (b.2.1.length + 1) uc, .slice ae b.2.2.length ce] rfl rfl 30 _ g3 (by kernel_rfl) rfl (by simp [Value.oneCell']) ?_)
        exact bodyPost_ret (v := .tuple #[.agg #[.slice ak b.1.length ck, .slice ua (b.2.1.length + 1) uc, .slice ae b.2.2.length ce], .int .i64 (0)]) (by simp [results, Tryz.results33, go_sem, cell_setRow_same _ _ _ _ _ _ _ g3]) rfl ⟨below_setRow H3.out.b (by omega) _, .inr ⟨HC.out, _, _, _, rfl, BookAt_row3 HNB.out g3 _⟩⟩
    · have b2 : (wd.toList == [112, 111, 105, 110, 116]) = false := pointS_list ▸ str_ne e2
      by_cases e3 : wd = setS
      · have b3 : (wd.toList == [115, 101, 116]) = true := setS_list ▸ str_eq e3
        obtain ⟨HE1, HE2⟩ := HL3.out e3
        clear HL1 HL2 HL3 HL4 HTP HTK e1 e2 e3
        go_wp2_with fail
        refine (HTC.out _ H1.out.b).mono ?_
        rintro e w3 ⟨hb3, ⟨hc, rfl⟩ | ⟨hc, x, y, z, rfl, hn⟩⟩
        · have H3 : Hid (TD w #[.slice ak b.1.length ck, .slice ap b.2.1.length cp, .slice ae b.2.2.length ce] w3) := H1.out.keep hb3
          have HC : Hid (lc ≠ 0 ∧ lc = setC b (rdS s)) := ⟨by rw [HE1]; exact hc, HE1⟩
          clear hc HE1 HE2
          have g3 := H3.out.c2
          go_wp2_with (refine wpList_store_row rfl 30 _ _ rfl (w.heap.size + 1) #[.slice ak b.1.length ck, .slice ap b.2.1.length cp, .slice ae b.2.2.length ce] rfl rfl 30 _ g3 (by kernel_rfl) rfl (by simp [Value.oneCell']) ?_)
          exact bodyPost_ret (v := .tuple #[.agg #[.slice ak b.1.length ck, .slice ap b.2.1.length cp, .slice ae b.2.2.length ce], .int .i64 (setC b (rdS s))]) (by simp [results, Tryz.results33, go_sem, cell_setRow_same _ _ _ _ _ _ _ g3]) rfl ⟨below_setRow H3.out.b (by omega) _, .inl ⟨HC.out.1, by rw [HC.out.2]⟩⟩
        · have H3 : Hid (TD w #[.slice ak b.1.length ck, .slice ap b.2.1.length cp, .slice ae b.2.2.length ce] w3) := H1.out.keep hb3
          have HK3 : Hid (BookAt w3 (.slice ak b.1.length ck) (.slice ap b.2.1.length cp) (.slice ae b.2.2.length ce) b.1 b.2.1 b.2.2) := HB.out.keep H3.out.b
          have HNB : Hid (BookAt w3 x y z lb.1 lb.2.1 lb.2.2) := by
            rw [HE2]
            exact hn.at
          obtain ⟨a1, c1, a2, c2, a3, c3, rfl, rfl, rfl⟩ := hn.slices
          have HC : Hid (lc = 0) := HE1.trans hc
          clear hc HE1 HE2 hb3
          have g3 := H3.out.c2
          go_wp2_with (refine wpList_store_row rfl 30 _ _ rfl (w.heap.size + 1) #[.slice a1 (takeT b.1 b.2.1 b.2.2 b.1).length c1, .slice a2 (takeT b.1 b.2.1 b.2.2 b.2.1).length c2, .slice a3 (takeE b.1 b.2.1 b.2.2 (rdS s).1).length c3] rfl rfl 30 _ g3 (by kernel_rfl) rfl (by simp [Value.oneCell']) ?_)
          exact bodyPost_ret (v := .tuple #[.agg #[.slice a1 (takeT b.1 b.2.1 b.2.2 b.1).length c1, .slice a2 (takeT b.1 b.2.1 b.2.2 b.2.1).length c2, .slice a3 (takeE b.1 b.2.1 b.2.2 (rdS s).1).length c3], .int .i64 (0)]) (by simp [results, Tryz.results33, go_sem, cell_setRow_same _ _ _ _ _ _ _ g3]) rfl ⟨below_setRow H3.out.b (by omega) _, .inr ⟨HC.out, _, _, _, rfl, BookAt_row3 HNB.out g3 _⟩⟩
      · have b3 : (wd.toList == [115, 101, 116]) = false := setS_list ▸ str_ne e3
        have HC : Hid (lc = 2) := HL4.out e1 e2 e3
        clear HL1 HL2 HL3 HL4 HTP HTK HTC e1 e2 e3
        go_wp2_with (refine wpList_store_row rfl 30 _ _ rfl (w.heap.size + 1) #[.slice ak b.1.length ck, .slice ap b.2.1.length cp, .slice ae b.2.2.length ce] rfl rfl 30 _ g2 (by kernel_rfl) rfl (by simp [Value.oneCell']) ?_)
        exact bodyPost_ret (v := .tuple #[.agg #[.slice ak b.1.length ck, .slice ap b.2.1.length cp, .slice ae b.2.2.length ce], .int .i64 (2)]) (by simp [results, Tryz.results33, go_sem, cell_setRow_same _ _ _ _ _ _ _ g2]) rfl ⟨below_setRow H1.out.b (by omega) _, .inl ⟨by rw [HC.out]; decide, by rw [HC.out]⟩⟩
end Go.Proofs.YtcmgddnckohdaaaGreatDoor.Tx
