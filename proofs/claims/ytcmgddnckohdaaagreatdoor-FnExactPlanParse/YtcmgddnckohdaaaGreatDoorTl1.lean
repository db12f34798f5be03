import Derived.Test.YtcmgddnckohdaaaGreatDoorIn4
namespace Go.Proofs.YtcmgddnckohdaaaGreatDoor.Tx
open Go.RowKit Go.Proofs.YtcmgddnckohdaaaGreatDoor Go.Proofs.YtcmgddnckohdaaaGreatDoor.Sd
set_option linter.unusedSimpArgs false
set_option linter.unusedVariables false
set_option maxRecDepth 100000 in
set_option maxHeartbeats 3200000 in
theorem fault_any (num c : Int) (s : ByteArray) (w : World) :
    Calls Tryz.prog 115 #[.agg #[.int .i64 num, .string s], .int .i64 c] w fun e w' => e = .returned (.iface 102 (.agg #[.int .i64 num, .int .i64 c])) ∧ Below w.heap.size w w' := by
  have HB : Hid (Below w.heap.size w (w.alloc (.cells #[.int .i64 num, .string s] 89))) := (Below.refl _ _).alloc (Nat.le_refl _) _
  go_enter Tryz.func115, Tryz.ntmps115
  go_wp2_with fail
  exact bodyPost_ret (v := .iface 102 (.agg #[.int .i64 num, .int .i64 c])) (by simp [results, Tryz.results115, go_sem]) rfl ⟨rfl, HB.out⟩
theorem three_boxes (w : World) (a b c : Obj) {w' : World} (hb : Below (((w.alloc a).alloc b).alloc c).heap.size (((w.alloc a).alloc b).alloc c) w') : w'.heap[w.heap.size]? = some a ∧ w'.heap[w.heap.size + 1]? = some b ∧ w'.heap[w.heap.size + 2]? = some c := by
  have h : ∀ (z : World) (o : Obj), (z.alloc o).heap[z.heap.size]? = some o := fun z o => by show (z.heap.push o)[z.heap.size]? = some o; simp
  have b3 : Below (w.alloc a).heap.size (w.alloc a) w' := below_step (((Below.refl _ _).alloc (Nat.le_refl _) _).alloc (by simp) _) hb
  have b4 : Below ((w.alloc a).alloc b).heap.size ((w.alloc a).alloc b) w' := below_step ((Below.refl _ _).alloc (Nat.le_refl _) _) hb
  have e1 := (b3.block w.heap.size (by simp)).trans (h w a)
  have e2 := (b4.block (w.alloc a).heap.size (by simp)).trans (h (w.alloc a) b)
  have e3 := (hb.block ((w.alloc a).alloc b).heap.size (by simp)).trans (h ((w.alloc a).alloc b) c)
  simp only [World.size_alloc] at e2 e3
  exact ⟨e1, e2, e3⟩
def fail3 (num c : Int) : Value := .tuple #[.agg #[.slice none 0 0, .slice none 0 0, .slice none 0 0], .iface 102 (.agg #[.int .i64 num, .int .i64 c])]
structure TB (w : World) (vk vp ve : Value) (num : Int) (s : ByteArray) (w1 : World) : Prop where
  c1 : w1.heap[w.heap.size]? = some (.cells #[vk, vp, ve] 30 (0, 0))
  c2 : w1.heap[w.heap.size + 1]? = some (.cells #[.int .i64 num, .string s] 89 (0, 0))
  c3 : w1.heap[w.heap.size + 2]? = some (.cells #[.slice none 0 0, .slice none 0 0, .slice none 0 0] 30 (0, 0))
  b : Below w.heap.size w w1
theorem TB.start {w w1 : World} {vk vp ve : Value} {num : Int} {s : ByteArray} (hb : Below (((w.alloc (.cells #[vk, vp, ve] 30)).alloc (.cells #[.int .i64 num, .string s] 89)).alloc (.cells #[.slice none 0 0, .slice none 0 0, .slice none 0 0] 30)).heap.size (((w.alloc (.cells #[vk, vp, ve] 30)).alloc (.cells #[.int .i64 num, .string s] 89)).alloc (.cells #[.slice none 0 0, .slice none 0 0, .slice none 0 0] 30)) w1) : TB w vk vp ve num s w1 := by
  obtain ⟨h1, h2, h3⟩ := three_boxes w _ _ _ hb
  exact ⟨h1, h2, h3, below_step ((((Below.refl _ _).alloc (Nat.le_refl _) _).alloc (by simp) _).alloc (by simp; omega) _) hb⟩
theorem TB.keep {w w1 w2 : World} {vk vp ve : Value} {num : Int} {s : ByteArray} (h : TB w vk vp ve num s w1) (hb : Below w1.heap.size w1 w2) : TB w vk vp ve num s w2 :=
  ⟨(hb.block _ (Array.getElem?_eq_some_iff.1 h.c1).1).trans h.c1, (hb.block _ (Array.getElem?_eq_some_iff.1 h.c2).1).trans h.c2, (hb.block _ (Array.getElem?_eq_some_iff.1 h.c3).1).trans h.c3, below_step h.b hb⟩
theorem TB.cells {w w1 : World} {vk vp ve : Value} {num : Int} {s : ByteArray} (h : TB w vk vp ve num s w1) : (w1.cell? ⟨w.heap.size, 0, none⟩ = some vk ∧ w1.cell? ⟨w.heap.size, 1, none⟩ = some vp ∧ w1.cell? ⟨w.heap.size, 2, none⟩ = some ve) ∧ (w1.cell? ⟨w.heap.size + 1, 0, none⟩ = some (.int .i64 num) ∧ w1.cell? ⟨w.heap.size + 1, 1, none⟩ = some (.string s)) ∧ w.heap.size < w1.heap.size ∧ w.heap.size + 1 < w1.heap.size ∧ w.heap.size + 2 < w1.heap.size := by
  obtain ⟨c1, c2, c3, -⟩ := h
  exact ⟨⟨by simp [World.cell?, c1], by simp [World.cell?, c1], by simp [World.cell?, c1]⟩, ⟨by simp [World.cell?, c2], by simp [World.cell?, c2]⟩, (Array.getElem?_eq_some_iff.1 c1).1, (Array.getElem?_eq_some_iff.1 c2).1, (Array.getElem?_eq_some_iff.1 c3).1⟩
theorem one_tri {W : World} {t : Tri} {vb : Nat} {T : TypeId} (h : W.heap[vb]? = some (.cells #[.string t.s, .int .i64 t.x, .int .i64 t.y] T (0, 0))) : TrisAt W (.slice (some ⟨vb, 0, none⟩) 1 1) [t] := by
  refine ⟨some ⟨vb, 0, none⟩, 1, rfl, by simp, by unfold maxLen; omega, fun i x hx => ?_⟩
  have hi : i = 0 := by
    have := (List.getElem?_eq_some_iff.1 hx).1
    simp at this
    exact this
  subst hi
  simp at hx
  subst hx
  exact ⟨vb, 0, rfl, ⟨by simp [World.cell?, h], by simp [World.cell?, h], by simp [World.cell?, h]⟩⟩
theorem heap_old (w : World) (a b : Obj) : ((w.alloc a).alloc b).heap[w.heap.size]? = some a := by
  show ((w.heap.push a).push b)[w.heap.size]? = some a
  rw [Array.getElem?_push_lt (by simp)]
  simp
theorem TB.set0 {w w1 : World} {vk vp ve : Value} {num : Int} {s : ByteArray} (h : TB w vk vp ve num s w1) (v : Value) : TB w v vp ve num s (w1.setCell ⟨w.heap.size, 0, none⟩ v) := by
  refine ⟨?_, ?_, ?_, h.b.setCell (p := ⟨w.heap.size, 0, none⟩) (Nat.le_refl _) v⟩
  · rw [setCell_eq_setRow _ _ _ _ _ _ _ h.c1]; exact setRow_heap _ _ _ _ _ _ h.c1
  · rw [Below.heap_setCell w1 ⟨w.heap.size, 0, none⟩ v (w.heap.size + 1) (by show w.heap.size + 1 ≠ w.heap.size; omega)]; exact h.c2
  · rw [Below.heap_setCell w1 ⟨w.heap.size, 0, none⟩ v (w.heap.size + 2) (by show w.heap.size + 2 ≠ w.heap.size; omega)]; exact h.c3
theorem TB.set1 {w w1 : World} {vk vp ve : Value} {num : Int} {s : ByteArray} (h : TB w vk vp ve num s w1) (v : Value) : TB w vk v ve num s (w1.setCell ⟨w.heap.size, 1, none⟩ v) := by
  refine ⟨?_, ?_, ?_, h.b.setCell (p := ⟨w.heap.size, 1, none⟩) (Nat.le_refl _) v⟩
  · rw [setCell_eq_setRow _ _ _ _ _ _ _ h.c1]; exact setRow_heap _ _ _ _ _ _ h.c1
  · rw [Below.heap_setCell w1 ⟨w.heap.size, 1, none⟩ v (w.heap.size + 1) (by show w.heap.size + 1 ≠ w.heap.size; omega)]; exact h.c2
  · rw [Below.heap_setCell w1 ⟨w.heap.size, 1, none⟩ v (w.heap.size + 2) (by show w.heap.size + 2 ≠ w.heap.size; omega)]; exact h.c3
set_option maxRecDepth 100000 in
set_option maxHeartbeats 6400000 in
theorem takeKind_any (num : Int) (s : ByteArray) (v : Value) (ap ae : Option Addr) (np cp ne ce : Nat) (ks : List Tri) (w : World) (hk : TrisAt w v ks) (hs : s.size ≤ 1048576) (hl : ks.length ≤ 1000) :
    Calls Tryz.prog 155 #[.agg #[v, .slice ap np cp, .slice ae ne ce], .agg #[.int .i64 num, .string s]] w fun e w' => Below w.heap.size w w' ∧
      ((kindC ks (cutW s) ≠ 0 ∧ e = .returned (fail3 num (kindC ks (cutW s)))) ∨
       (kindC ks (cutW s) = 0 ∧ ∃ u, e = .returned (.tuple #[.agg #[u, .slice ap np cp, .slice ae ne ce], .nilIface]) ∧ w'.ownsRow w.heap.size 69 3 u (ks.length + 1) (triRows (insT ks (plc ks (triW (cutW s)).s) (triW (cutW s)))))) := by
  have hsz : ∀ i, i < (cutW s).length → (wat (cutW s) i).size ≤ 1048576 := fun i hi => Nat.le_trans (wat_size hi) hs
  obtain ⟨t, ok, hR, htz, hok, hokp, hti⟩ := named_kind (cutW s) num0 (fun x => rfl) 1048576 hsz
  have HNM : Hid (∀ wx : World, Calls Tryz.prog 179 #[.agg #[.int .i64 num, .string s]] wx fun e w' => e = .returned (.tuple #[.string t.s, .int .i64 t.x, .int .i64 t.y, .bool ok]) ∧ Below wx.heap.size wx w') := fun wx => by
    have h := named_any num s wx hs
    rw [hR] at h
    exact h
  have HC : Hid (kindC ks (cutW s) = bif ok && kindsB [t] then (bif hasB ks t.s then 4 else bif decide (6 ≤ ks.length) then 6 else 0) else 3) := by
    show _ = _
    unfold kindC
    rw [← hok]
    cases ok
    · rfl
    · rw [hti rfl]
  have HT : Hid (ok = true → triW (cutW s) = t) := fun h => (hti h).symm
  generalize kindC ks (cutW s) = kc at *
  generalize triW (cutW s) = tt at *
  clear hok hokp hti hR hsz
  have HK := toHidC hk
  obtain ⟨ak, ck, rfl, hlc, hcm, -⟩ := hk
  unfold maxLen at hcm
  have HKO : Hid (∀ (wx : World) (vb : Nat), wx.heap[vb]? = some (.cells #[.string t.s, .int .i64 t.x, .int .i64 t.y] 69 (0, 0)) → Calls Tryz.prog 79 #[.slice (some ⟨vb, 0, none⟩) 1 1] wx fun e w' => e = .returned (.bool (kindsB [t])) ∧ Below wx.heap.size wx w') := fun wx vb hv => kindsOk_any _ [t] wx (one_tri hv) (fun x hx => by simp at hx; subst hx; unfold maxLen; omega)
  have HPL : Hid (∀ wx : World, Below w.heap.size w wx → Calls Tryz.prog 180 #[.slice ak ks.length ck, .string t.s, .func (.func 129) #[] #[]] wx fun e w' => e = .returned (.tuple #[.int .i64 (plc ks t.s : Nat), .bool (hasB ks t.s)]) ∧ Below wx.heap.size wx w') := fun wx hx => placeKind_any _ ks t.s wx (HK.out.keep hx)
  generalize kindsB [t] = kb at *
  generalize hhb : hasB ks t.s = hb at *
  clear hhb
  have hpl := plc_le ks t.s
  go_enter Tryz.func155, Tryz.ntmps155
  go_wp2_with fail
  refine (HNM.out _).mono ?_
  rintro e w1 ⟨rfl, hb1⟩
  have H1 : Hid (TB w (.slice ak ks.length ck) (.slice ap np cp) (.slice ae ne ce) num s w1) := TB.start hb1
  clear hb1
  obtain ⟨⟨d0, d1, d2⟩, ⟨f0, f1⟩, z1, z2, z3⟩ := H1.out.cells
  have g0 := H1.out.c1
  cases ok
  · go_wp2_with fail
    refine (fault_any num 3 s _).mono ?_
    rintro e w2 ⟨rfl, hb2⟩
    have H2 : Hid (TB w (.slice ak ks.length ck) (.slice ap np cp) (.slice ae ne ce) num s w2) := (H1.out.keep ((Below.refl _ _).alloc (Nat.le_refl _) _)).keep hb2
    have g2 := H2.out.c3
    have hkc : kc = 3 := HC.out
    go_wp2_with (refine wpList_store_row rfl 30 _ _ rfl (w.heap.size + 2) #[.slice none 0 0, .slice none 0 0, .slice none 0 0] rfl rfl 30 _ g2 (by kernel_rfl) rfl (by simp [Value.oneCell']) ?_)
    exact bodyPost_ret (v := fail3 num 3) (by simp [results, Tryz.results155, go_sem, cell_setRow_same _ _ _ _ _ _ _ g2, fail3]) rfl ⟨below_setRow H2.out.b (by omega) _, .inl ⟨by rw [hkc]; decide, by rw [hkc]⟩⟩
  · have hT : t = tt := (HT.out rfl).symm
    subst hT
    go_wp2_with fail
    have HA : Hid (Below w1.heap.size w1 ((w1.alloc (.cells #[.string t.s, .int .i64 t.x, .int .i64 t.y] 69)).alloc (.cells #[.string t.s, .int .i64 t.x, .int .i64 t.y] 69))) := ((Below.refl _ _).alloc (Nat.le_refl _) _).alloc (by simp) _
    have HKB : Hid (((w1.alloc (.cells #[.string t.s, .int .i64 t.x, .int .i64 t.y] 69)).alloc (.cells #[.string t.s, .int .i64 t.x, .int .i64 t.y] 69)).heap[w1.heap.size]? = some (.cells #[.string t.s, .int .i64 t.x, .int .i64 t.y] 69 (0, 0))) := heap_old w1 _ _
    have HV2 : Hid (((w1.alloc (.cells #[.string t.s, .int .i64 t.x, .int .i64 t.y] 69)).alloc (.cells #[.string t.s, .int .i64 t.x, .int .i64 t.y] 69)).heap[w1.heap.size + 1]? = some (.cells #[.string t.s, .int .i64 t.x, .int .i64 t.y] 69 (0, 0))) := by
      have h := heap_newF (w1.alloc (.cells #[.string t.s, .int .i64 t.x, .int .i64 t.y] 69)) (.cells #[.string t.s, .int .i64 t.x, .int .i64 t.y] 69)
      rw [World.size_alloc] at h
      exact h
    refine (HKO.out _ (w1.heap.size + 1) HV2.out).mono ?_
    rintro e w2 ⟨rfl, hb2⟩
    have H2 : Hid (TB w (.slice ak ks.length ck) (.slice ap np cp) (.slice ae ne ce) num s w2) := (H1.out.keep HA.out).keep hb2
    have HB2 : Hid (w2.heap[w1.heap.size]? = some (.cells #[.string t.s, .int .i64 t.x, .int .i64 t.y] 69 (0, 0))) := (hb2.block _ (Array.getElem?_eq_some_iff.1 HKB.out).1).trans HKB.out
    clear hb2 HA HKB HV2 H1
    clear d0 d1 d2 f0 f1 z1 z2 z3 g0
    obtain ⟨⟨d0, d1, d2⟩, ⟨f0, f1⟩, z1, z2, z3⟩ := H2.out.cells
    have g0 := H2.out.c1
    cases kb
    · go_wp2_with fail
      refine (fault_any num 3 s _).mono ?_
      rintro e w3 ⟨rfl, hb3⟩
      have H3 : Hid (TB w (.slice ak ks.length ck) (.slice ap np cp) (.slice ae ne ce) num s w3) := (H2.out).keep hb3
      have g2 := H3.out.c3
      have hkc : kc = 3 := HC.out
      go_wp2_with (refine wpList_store_row rfl 30 _ _ rfl (w.heap.size + 2) #[.slice none 0 0, .slice none 0 0, .slice none 0 0] rfl rfl 30 _ g2 (by kernel_rfl) rfl (by simp [Value.oneCell']) ?_)
      exact bodyPost_ret (v := fail3 num 3) (by simp [results, Tryz.results155, go_sem, cell_setRow_same _ _ _ _ _ _ _ g2, fail3]) rfl ⟨below_setRow H3.out.b (by omega) _, .inl ⟨by rw [hkc]; decide, by rw [hkc]⟩⟩
    · go_wp2_with fail
      refine (HPL.out _ H2.out.b).mono ?_
      rintro e w3 ⟨rfl, hb3⟩
      have H3 : Hid (TB w (.slice ak ks.length ck) (.slice ap np cp) (.slice ae ne ce) num s w3) := H2.out.keep hb3
      have HB3 : Hid (w3.heap[w1.heap.size]? = some (.cells #[.string t.s, .int .i64 t.x, .int .i64 t.y] 69 (0, 0))) := (hb3.block _ (Array.getElem?_eq_some_iff.1 HB2.out).1).trans HB2.out
      clear hb3 HB2 H2
      clear d0 d1 d2 f0 f1 z1 z2 z3 g0
      obtain ⟨⟨d0, d1, d2⟩, ⟨f0, f1⟩, z1, z2, z3⟩ := H3.out.cells
      have g0 := H3.out.c1
      cases hb
      · have y0 : w3.cell? ⟨w1.heap.size, 0, none⟩ = some (.string t.s) := by simp [World.cell?, HB3.out]
        have y1 : w3.cell? ⟨w1.heap.size, 1, none⟩ = some (.int .i64 t.x) := by simp [World.cell?, HB3.out]
        have y2 : w3.cell? ⟨w1.heap.size, 2, none⟩ = some (.int .i64 t.y) := by simp [World.cell?, HB3.out]
        have z4 : w1.heap.size < w3.heap.size := (Array.getElem?_eq_some_iff.1 HB3.out).1
        by_cases h6 : 6 ≤ ks.length
        · have h6i : (6 : Int) ≤ (ks.length : Int) := by omega
          go_wp2_with fail
          refine (fault_any num 6 s _).mono ?_
          rintro e w9 ⟨rfl, hb9⟩
          have H9 : Hid (TB w (.slice ak ks.length ck) (.slice ap np cp) (.slice ae ne ce) num s w9) := (H3.out).keep hb9
          have g2 := H9.out.c3
          have hkc : kc = 6 := HC.out.trans (by rw [decide_eq_true h6]; rfl)
          go_wp2_with (refine wpList_store_row rfl 30 _ _ rfl (w.heap.size + 2) #[.slice none 0 0, .slice none 0 0, .slice none 0 0] rfl rfl 30 _ g2 (by kernel_rfl) rfl (by simp [Value.oneCell']) ?_)
          exact bodyPost_ret (v := fail3 num 6) (by simp [results, Tryz.results155, go_sem, cell_setRow_same _ _ _ _ _ _ _ g2, fail3]) rfl ⟨below_setRow H9.out.b (by omega) _, .inl ⟨by rw [hkc]; decide, by rw [hkc]⟩⟩
        · have h6i : ¬ (6 : Int) ≤ (ks.length : Int) := by omega
          have hkc : kc = 0 := HC.out.trans (by rw [decide_eq_false h6]; rfl)
          go_wp2_with fail
          have HSS : Hid (∀ w' : World, Below w3.heap.size w3 w' → w'.cell? ⟨w.heap.size, 0, none⟩ = some (.slice ak ks.length ck) ∧ w'.cell? ⟨w1.heap.size, 0, none⟩ = some (.string t.s) ∧ w'.cell? ⟨w1.heap.size, 1, none⟩ = some (.int .i64 t.x) ∧ w'.cell? ⟨w1.heap.size, 2, none⟩ = some (.int .i64 t.y)) := fun w' hx => by
            have h1 := (H3.out.keep hx).c1
            have h2 := (hx.block _ (Array.getElem?_eq_some_iff.1 HB3.out).1).trans HB3.out
            exact ⟨by simp [World.cell?, h1], by simp [World.cell?, h2], by simp [World.cell?, h2], by simp [World.cell?, h2]⟩
          have HW5 : Hid (w.heap.size < w3.heap.size) := z1
          have HW6 : Hid (w.heap.size + 2 < w3.heap.size) := z3
          clear d0 d1 d2 f0 f1 z1 z2 z3 g0
          clear y0 y1 y2 z4
          refine wp_region_noPanic ?_
          refine wp_region_till (S := fun w' => w'.cell? ⟨w.heap.size, 0, none⟩ = some (.slice ak ks.length ck) ∧ w'.cell? ⟨w1.heap.size, 0, none⟩ = some (.string t.s) ∧ w'.cell? ⟨w1.heap.size, 1, none⟩ = some (.int .i64 t.x) ∧ w'.cell? ⟨w1.heap.size, 2, none⟩ = some (.int .i64 t.y)) 10 (by kernel_rfl) ?_ (fun hHeld => ?_)
          · exact HSS.out _ (Below.refl _ _).drew
          have HBW : Hid (Below w3.heap.size w3 w3.drew) := (Below.refl _ _).drew
          generalize w3.drew = W0 at *
          refine tkT 0 ?_ rfl ?_ ?_; rotate_left
          · intro w hSw; (try dsimp only at hSw); go_simp; try with_reducible rfl
          simp only [Act.put, tkS]
          refine tkT 1 ?_ rfl ?_ ?_; rotate_left
          · intro w hSw; (try dsimp only at hSw); go_simp; try with_reducible rfl
          simp only [Act.put, tkS]
          refine tkT 2 ?_ rfl ?_ ?_; rotate_left
          · intro w hSw; (try dsimp only at hSw); go_simp; try with_reducible rfl
          simp only [Act.put, tkS]
          refine tkT 4 ?_ rfl ?_ ?_; rotate_left
          · intro w hSw; (try dsimp only at hSw); go_simp; try with_reducible rfl
          simp only [Act.put, tkS]
          refine tkT 5 ?_ rfl ?_ ?_; rotate_left
          · intro w hSw; (try dsimp only at hSw); go_simp; try with_reducible rfl
          simp only [Act.put, tkS]
          clear hHeld
          refine wpTill_ready (rs := [3, 6]) (by kernel_rfl) (by simp) ?_
          refine AllReadyT.cons rfl (fun K hK => ?_) (AllReadyT.cons rfl (fun K hK => ?_) AllReadyT.nil)
          · go_simp
            refine (cloneKind_any _ ks _ (HK.out.keep (below_step H3.out.b HBW.out)) (by omega)).mono ?_
            rintro e W1 ⟨u, rfl, hu, hbb⟩
            obtain ⟨ua, uc, rfl⟩ := own_slice hu
            have HB2 : Hid (Below w3.heap.size w3 W1) := below_step HBW.out hbb
            have HU : Hid (W1.ownsRow w3.heap.size 69 3 (.slice ua ks.length uc) ks.length (triRows ks)) := own_mono hu HBW.out.size
            have HLT : Hid (∀ k, (Value.slice ua ks.length uc).ownBlock = some k → k < W1.heap.size) := own_lt hu
            refine hK.out _ _ (.inr (HSS.out _ HB2.out)) ?_
            clear hK K hu hbb HBW
            have HBW := HB2
            clear HB2
            refine rdT 6 rfl (fun K hK => ?_)
            go_simp
            have hbb : Below W1.heap.size W1 (W1.alloc (.cells #[.string t.s, .int .i64 t.x, .int .i64 t.y] 69)) := (Below.refl _ _).alloc (Nat.le_refl _) _
            have HB2 : Hid (Below w3.heap.size w3 (W1.alloc (.cells #[.string t.s, .int .i64 t.x, .int .i64 t.y] 69))) := below_step HBW.out hbb
            have HV : Hid ((W1.alloc (.cells #[.string t.s, .int .i64 t.x, .int .i64 t.y] 69)).heap[W1.heap.size]? = some (.cells #[.string t.s, .int .i64 t.x, .int .i64 t.y] 69 (0, 0))) := heap_newF W1 _
            have HU2 : Hid ((W1.alloc (.cells #[.string t.s, .int .i64 t.x, .int .i64 t.y] 69)).ownsRow w3.heap.size 69 3 (.slice ua ks.length uc) ks.length (triRows ks)) := ownsRow_keep HU.out hbb
            have HNE : Hid ((Value.slice ua ks.length uc).ownBlock ≠ some W1.heap.size) := fun e => Nat.lt_irrefl _ (HLT.out _ e)
            refine hK.out _ _ (.inr (HSS.out _ HB2.out)) ?_
            clear hK K hbb HBW HU HLT
            have HBW := HB2
            have HU := HU2
            clear HB2 HU2
            generalize W1.alloc (.cells #[.string t.s, .int .i64 t.x, .int .i64 t.y] 69) = W2 at *
            refine rdT 7 rfl (fun K hK => ?_)
            go_simp
            refine (insertKind_any w3.heap.size W1.heap.size (plc ks t.s) _ ks t _ hpl hl HBW.out.size HU.out HNE.out HV.out).mono ?_
            rintro e W3 ⟨v6, rfl, hu6, hb6⟩
            obtain ⟨va, vc, rfl⟩ := own_slice hu6
            have HB2 : Hid (Below w3.heap.size w3 W3) := HBW.out.trans hb6
            refine hK.out _ _ (.inr (HSS.out _ HB2.out)) ?_
            clear hK K HBW HU HV HNE hb6
            have HBW := HB2
            clear HB2
            refine rdT 8 rfl (fun K hK => ?_)
            go_simp
            refine hK.out _ _ (.inr (HSS.out _ HBW.out)) ?_
            clear hK K
            refine rdT 9 rfl (fun K hK => ?_)
            go_simp
            refine hK.out _ _ (.inr (HSS.out _ HBW.out)) ?_
            clear hK K
            refine rdT 10 rfl (fun K hK => ?_)
            have H6 : Hid (TB w (.slice ak ks.length ck) (.slice ap np cp) (.slice ae ne ce) num s W3) := H3.out.keep HBW.out
            have lz : W3.cell? ⟨w.heap.size, 0, none⟩ = some (.slice ak ks.length ck) := (HSS.out _ HBW.out).1
            have lf : W3.frozen? ⟨w.heap.size, 0, none⟩ = false := by simp [World.frozen?, H6.out.c1]
            have H7 := toHidC (H6.out.set0 (.slice va (ks.length + 1) vc))
            have HU7 := toHidC (own_mono (ownsRow_farF hu6 (grown_setF W3 w.heap.size 0 (.slice va (ks.length + 1) vc)) (fun q hq e => by have := own_ge hu6 q hq; have := HW5.out; injection e; omega)) (Nat.le_of_lt HW5.out))
            have HQ : Hid (∀ k, (Value.slice va (ks.length + 1) vc).ownBlock = some k → w.heap.size + 2 < k) := fun k hq => by have := own_ge hu6 k hq; have := HW6.out; omega
            go_simp
            refine hK.out _ _ (.inl rfl) ?_
            clear hK K lz lf hu6 HBW H6
            refine wpTill_done (by kernel_rfl) ?_ _
            refine NoPanic.normal ?_
            generalize W3.setCell ⟨w.heap.size, 0, none⟩ (.slice va (ks.length + 1) vc) = W4 at *
            obtain ⟨⟨d0, d1, d2⟩, ⟨f0, f1⟩, z1, z2, z3⟩ := H7.out.cells
            have g0 := H7.out.c1
            have g2 := H7.out.c3
            go_wp2_with (refine wpList_store_row rfl 30 _ _ rfl (w.heap.size + 2) #[.slice va (ks.length + 1) vc, .slice ap np cp, .slice ae ne ce] rfl rfl 30 _ g2 (by kernel_rfl) rfl (by simp [Value.oneCell']) ?_)
            exact bodyPost_ret (v := .tuple #[.agg #[.slice va (ks.length + 1) vc, .slice ap np cp, .slice ae ne ce], .nilIface]) (by simp [results, Tryz.results155, go_sem, cell_setRow_same _ _ _ _ _ _ _ g2]) rfl ⟨below_setRow H7.out.b (by omega) _, .inr ⟨hkc, _, rfl, ownsRow_farF HU7.out (grown_rowF W4 (w.heap.size + 2) _) (fun q hq e => by have := HQ.out q hq; injection e; omega)⟩⟩
          · go_simp
            have hbb : Below W0.heap.size W0 (W0.alloc (.cells #[.string t.s, .int .i64 t.x, .int .i64 t.y] 69)) := (Below.refl _ _).alloc (Nat.le_refl _) _
            have HB2 : Hid (Below w3.heap.size w3 (W0.alloc (.cells #[.string t.s, .int .i64 t.x, .int .i64 t.y] 69))) := below_step HBW.out hbb
            have HV : Hid ((W0.alloc (.cells #[.string t.s, .int .i64 t.x, .int .i64 t.y] 69)).heap[W0.heap.size]? = some (.cells #[.string t.s, .int .i64 t.x, .int .i64 t.y] 69 (0, 0))) := heap_newF W0 _
            have HLT : Hid (W0.heap.size < (W0.alloc (.cells #[.string t.s, .int .i64 t.x, .int .i64 t.y] 69)).heap.size) := by show _ < _; rw [World.size_alloc]; omega
            refine hK.out _ _ (.inr (HSS.out _ HB2.out)) ?_
            clear hK K hbb HBW
            have HBW := HB2
            clear HB2
            generalize W0.alloc (.cells #[.string t.s, .int .i64 t.x, .int .i64 t.y] 69) = W1 at *
            refine rdT 3 rfl (fun K hK => ?_)
            go_simp
            refine (cloneKind_any _ ks _ (HK.out.keep (below_step H3.out.b HBW.out)) (by omega)).mono ?_
            rintro e W2 ⟨u, rfl, hu, hbb⟩
            obtain ⟨ua, uc, rfl⟩ := own_slice hu
            have HB2 : Hid (Below w3.heap.size w3 W2) := below_step HBW.out hbb
            have HU : Hid (W2.ownsRow w3.heap.size 69 3 (.slice ua ks.length uc) ks.length (triRows ks)) := own_mono hu HBW.out.size
            have HNE : Hid ((Value.slice ua ks.length uc).ownBlock ≠ some W0.heap.size) := fun e => by have := own_ge hu _ e; have := HLT.out; omega
            have HV2 : Hid (W2.heap[W0.heap.size]? = some (.cells #[.string t.s, .int .i64 t.x, .int .i64 t.y] 69 (0, 0))) := (hbb.block _ HLT.out).trans HV.out
            refine hK.out _ _ (.inr (HSS.out _ HB2.out)) ?_
            clear hK K hu hbb HBW HV HLT
            have HBW := HB2
            have HV := HV2
            clear HB2 HV2
            refine rdT 7 rfl (fun K hK => ?_)
            go_simp
            refine (insertKind_any w3.heap.size W0.heap.size (plc ks t.s) _ ks t _ hpl hl HBW.out.size HU.out HNE.out HV.out).mono ?_
            rintro e W3 ⟨v6, rfl, hu6, hb6⟩
            obtain ⟨va, vc, rfl⟩ := own_slice hu6
            have HB2 : Hid (Below w3.heap.size w3 W3) := HBW.out.trans hb6
            refine hK.out _ _ (.inr (HSS.out _ HB2.out)) ?_
            clear hK K HBW HU HV HNE hb6
            have HBW := HB2
            clear HB2
            refine rdT 8 rfl (fun K hK => ?_)
            go_simp
            refine hK.out _ _ (.inr (HSS.out _ HBW.out)) ?_
            clear hK K
            refine rdT 9 rfl (fun K hK => ?_)
            go_simp
            refine hK.out _ _ (.inr (HSS.out _ HBW.out)) ?_
            clear hK K
            refine rdT 10 rfl (fun K hK => ?_)
            have H6 : Hid (TB w (.slice ak ks.length ck) (.slice ap np cp) (.slice ae ne ce) num s W3) := H3.out.keep HBW.out
            have lz : W3.cell? ⟨w.heap.size, 0, none⟩ = some (.slice ak ks.length ck) := (HSS.out _ HBW.out).1
            have lf : W3.frozen? ⟨w.heap.size, 0, none⟩ = false := by simp [World.frozen?, H6.out.c1]
            have H7 := toHidC (H6.out.set0 (.slice va (ks.length + 1) vc))
            have HU7 := toHidC (own_mono (ownsRow_farF hu6 (grown_setF W3 w.heap.size 0 (.slice va (ks.length + 1) vc)) (fun q hq e => by have := own_ge hu6 q hq; have := HW5.out; injection e; omega)) (Nat.le_of_lt HW5.out))
            have HQ : Hid (∀ k, (Value.slice va (ks.length + 1) vc).ownBlock = some k → w.heap.size + 2 < k) := fun k hq => by have := own_ge hu6 k hq; have := HW6.out; omega
            go_simp
            refine hK.out _ _ (.inl rfl) ?_
            clear hK K lz lf hu6 HBW H6
            refine wpTill_done (by kernel_rfl) ?_ _
            refine NoPanic.normal ?_
            generalize W3.setCell ⟨w.heap.size, 0, none⟩ (.slice va (ks.length + 1) vc) = W4 at *
            obtain ⟨⟨d0, d1, d2⟩, ⟨f0, f1⟩, z1, z2, z3⟩ := H7.out.cells
            have g0 := H7.out.c1
            have g2 := H7.out.c3
            go_wp2_with (refine wpList_store_row rfl 30 _ _ rfl (w.heap.size + 2) #[.slice va (ks.length + 1) vc, .slice ap np cp, .slice ae ne ce] rfl rfl 30 _ g2 (by kernel_rfl) rfl (by simp [Value.oneCell']) ?_)
            exact bodyPost_ret (v := .tuple #[.agg #[.slice va (ks.length + 1) vc, .slice ap np cp, .slice ae ne ce], .nilIface]) (by simp [results, Tryz.results155, go_sem, cell_setRow_same _ _ _ _ _ _ _ g2]) rfl ⟨below_setRow H7.out.b (by omega) _, .inr ⟨hkc, _, rfl, ownsRow_farF HU7.out (grown_rowF W4 (w.heap.size + 2) _) (fun q hq e => by have := HQ.out q hq; injection e; omega)⟩⟩
      · go_wp2_with fail
        refine (fault_any num 4 s _).mono ?_
        rintro e w4 ⟨rfl, hb4⟩
        have H4 : Hid (TB w (.slice ak ks.length ck) (.slice ap np cp) (.slice ae ne ce) num s w4) := (H3.out).keep hb4
        have g2 := H4.out.c3
        have hkc : kc = 4 := HC.out
        go_wp2_with (refine wpList_store_row rfl 30 _ _ rfl (w.heap.size + 2) #[.slice none 0 0, .slice none 0 0, .slice none 0 0] rfl rfl 30 _ g2 (by kernel_rfl) rfl (by simp [Value.oneCell']) ?_)
        exact bodyPost_ret (v := fail3 num 4) (by simp [results, Tryz.results155, go_sem, cell_setRow_same _ _ _ _ _ _ _ g2, fail3]) rfl ⟨below_setRow H4.out.b (by omega) _, .inl ⟨by rw [hkc]; decide, by rw [hkc]⟩⟩
set_option maxRecDepth 100000 in
set_option maxHeartbeats 6400000 in
theorem takePoint_any (num : Int) (s : ByteArray) (v : Value) (ap ae : Option Addr) (np cp ne ce : Nat) (ks : List Tri) (w : World) (hk : TrisAt w v ks) (hs : s.size ≤ 1048576) (hl : ks.length ≤ 1000) :
    Calls Tryz.prog 156 #[.agg #[.slice ap np cp, v, .slice ae ne ce], .agg #[.int .i64 num, .string s]] w fun e w' => Below w.heap.size w w' ∧
      ((pointC ks (cutW s) ≠ 0 ∧ e = .returned (fail3 num (pointC ks (cutW s)))) ∨
       (pointC ks (cutW s) = 0 ∧ ∃ u, e = .returned (.tuple #[.agg #[.slice ap np cp, u, .slice ae ne ce], .nilIface]) ∧ w'.ownsRow w.heap.size 72 3 u (ks.length + 1) (triRows (insT ks (plc ks (triW (cutW s)).s) (triW (cutW s)))))) := by
  have hsz : ∀ i, i < (cutW s).length → (wat (cutW s) i).size ≤ 1048576 := fun i hi => Nat.le_trans (wat_size hi) hs
  obtain ⟨t, ok, hR, htz, hok, hokp, hti⟩ := named_kind (cutW s) num0 (fun x => rfl) 1048576 hsz
  have HNM : Hid (∀ wx : World, Calls Tryz.prog 179 #[.agg #[.int .i64 num, .string s]] wx fun e w' => e = .returned (.tuple #[.string t.s, .int .i64 t.x, .int .i64 t.y, .bool ok]) ∧ Below wx.heap.size wx w') := fun wx => by
    have h := named_any num s wx hs
    rw [hR] at h
    exact h
  have HC : Hid (pointC ks (cutW s) = bif ok && pointsB [t] then (bif hasB ks t.s then 4 else bif anyCell ks t then 5 else bif decide (16 ≤ ks.length) then 6 else 0) else 3) := by
    show _ = _
    unfold pointC
    rw [← hokp]
    cases ok
    · rfl
    · rw [hti rfl]
  have HT : Hid (ok = true → triW (cutW s) = t) := fun h => (hti h).symm
  generalize pointC ks (cutW s) = kc at *
  generalize triW (cutW s) = tt at *
  clear hok hokp hti hR hsz
  have HK := toHidC hk
  obtain ⟨ak, ck, rfl, hlc, hcm, -⟩ := hk
  unfold maxLen at hcm
  have HKO : Hid (∀ (wx : World) (vb : Nat), wx.heap[vb]? = some (.cells #[.string t.s, .int .i64 t.x, .int .i64 t.y] 72 (0, 0)) → Calls Tryz.prog 80 #[.slice (some ⟨vb, 0, none⟩) 1 1] wx fun e w' => e = .returned (.bool (pointsB [t])) ∧ Below wx.heap.size wx w') := fun wx vb hv => pointsOk_any _ [t] wx (one_tri hv) (fun x hx => by simp at hx; subst hx; unfold maxLen; omega)
  have HPL : Hid (∀ wx : World, Below w.heap.size w wx → Calls Tryz.prog 183 #[.slice ak ks.length ck, .string t.s, .func (.func 132) #[] #[]] wx fun e w' => e = .returned (.tuple #[.int .i64 (plc ks t.s : Nat), .bool (hasB ks t.s)]) ∧ Below wx.heap.size wx w') := fun wx hx => placePoint_any _ ks t.s wx (HK.out.keep hx)
  have HCT : Hid (∀ wx : World, Below w.heap.size w wx → Calls Tryz.prog 134 #[.slice ak ks.length ck, .agg #[.string t.s, .int .i64 t.x, .int .i64 t.y]] wx fun e w' => e = .returned (.bool (anyCell ks t)) ∧ Below wx.heap.size wx w') := fun wx hx => by
    rw [← any_taken]
    exact cellTaken_any _ ks t wx (HK.out.keep hx)
  generalize anyCell ks t = tb at *
  generalize pointsB [t] = kb at *
  generalize hhb : hasB ks t.s = hb at *
  clear hhb
  have hpl := plc_le ks t.s
  go_enter Tryz.func156, Tryz.ntmps156
  go_wp2_with fail
  refine (HNM.out _).mono ?_
  rintro e w1 ⟨rfl, hb1⟩
  have H1 : Hid (TB w (.slice ap np cp) (.slice ak ks.length ck) (.slice ae ne ce) num s w1) := TB.start hb1
  clear hb1
  obtain ⟨⟨d0, d1, d2⟩, ⟨f0, f1⟩, z1, z2, z3⟩ := H1.out.cells
  have g0 := H1.out.c1
  cases ok
  · go_wp2_with fail
    refine (fault_any num 3 s _).mono ?_
    rintro e w2 ⟨rfl, hb2⟩
    have H2 : Hid (TB w (.slice ap np cp) (.slice ak ks.length ck) (.slice ae ne ce) num s w2) := (H1.out.keep ((Below.refl _ _).alloc (Nat.le_refl _) _)).keep hb2
    have g2 := H2.out.c3
    have hkc : kc = 3 := HC.out
    go_wp2_with (refine wpList_store_row rfl 30 _ _ rfl (w.heap.size + 2) #[.slice none 0 0, .slice none 0 0, .slice none 0 0] rfl rfl 30 _ g2 (by kernel_rfl) rfl (by simp [Value.oneCell']) ?_)
    exact bodyPost_ret (v := fail3 num 3) (by simp [results, Tryz.results156, go_sem, cell_setRow_same _ _ _ _ _ _ _ g2, fail3]) rfl ⟨below_setRow H2.out.b (by omega) _, .inl ⟨by rw [hkc]; decide, by rw [hkc]⟩⟩
  · have hT : t = tt := (HT.out rfl).symm
    subst hT
    go_wp2_with fail
    have HA : Hid (Below w1.heap.size w1 ((w1.alloc (.cells #[.string t.s, .int .i64 t.x, .int .i64 t.y] 72)).alloc (.cells #[.string t.s, .int .i64 t.x, .int .i64 t.y] 72))) := ((Below.refl _ _).alloc (Nat.le_refl _) _).alloc (by simp) _
    have HKB : Hid (((w1.alloc (.cells #[.string t.s, .int .i64 t.x, .int .i64 t.y] 72)).alloc (.cells #[.string t.s, .int .i64 t.x, .int .i64 t.y] 72)).heap[w1.heap.size]? = some (.cells #[.string t.s, .int .i64 t.x, .int .i64 t.y] 72 (0, 0))) := heap_old w1 _ _
    have HV2 : Hid (((w1.alloc (.cells #[.string t.s, .int .i64 t.x, .int .i64 t.y] 72)).alloc (.cells #[.string t.s, .int .i64 t.x, .int .i64 t.y] 72)).heap[w1.heap.size + 1]? = some (.cells #[.string t.s, .int .i64 t.x, .int .i64 t.y] 72 (0, 0))) := by
      have h := heap_newF (w1.alloc (.cells #[.string t.s, .int .i64 t.x, .int .i64 t.y] 72)) (.cells #[.string t.s, .int .i64 t.x, .int .i64 t.y] 72)
      rw [World.size_alloc] at h
      exact h
    refine (HKO.out _ (w1.heap.size + 1) HV2.out).mono ?_
    rintro e w2 ⟨rfl, hb2⟩
    have H2 : Hid (TB w (.slice ap np cp) (.slice ak ks.length ck) (.slice ae ne ce) num s w2) := (H1.out.keep HA.out).keep hb2
    have HB2 : Hid (w2.heap[w1.heap.size]? = some (.cells #[.string t.s, .int .i64 t.x, .int .i64 t.y] 72 (0, 0))) := (hb2.block _ (Array.getElem?_eq_some_iff.1 HKB.out).1).trans HKB.out
    clear hb2 HA HKB HV2 H1
    clear d0 d1 d2 f0 f1 z1 z2 z3 g0
    obtain ⟨⟨d0, d1, d2⟩, ⟨f0, f1⟩, z1, z2, z3⟩ := H2.out.cells
    have g0 := H2.out.c1
    cases kb
    · go_wp2_with fail
      refine (fault_any num 3 s _).mono ?_
      rintro e w3 ⟨rfl, hb3⟩
      have H3 : Hid (TB w (.slice ap np cp) (.slice ak ks.length ck) (.slice ae ne ce) num s w3) := (H2.out).keep hb3
      have g2 := H3.out.c3
      have hkc : kc = 3 := HC.out
      go_wp2_with (refine wpList_store_row rfl 30 _ _ rfl (w.heap.size + 2) #[.slice none 0 0, .slice none 0 0, .slice none 0 0] rfl rfl 30 _ g2 (by kernel_rfl) rfl (by simp [Value.oneCell']) ?_)
      exact bodyPost_ret (v := fail3 num 3) (by simp [results, Tryz.results156, go_sem, cell_setRow_same _ _ _ _ _ _ _ g2, fail3]) rfl ⟨below_setRow H3.out.b (by omega) _, .inl ⟨by rw [hkc]; decide, by rw [hkc]⟩⟩
    · go_wp2_with fail
      refine (HPL.out _ H2.out.b).mono ?_
      rintro e w3 ⟨rfl, hb3⟩
      have H3 : Hid (TB w (.slice ap np cp) (.slice ak ks.length ck) (.slice ae ne ce) num s w3) := H2.out.keep hb3
      have HB3 : Hid (w3.heap[w1.heap.size]? = some (.cells #[.string t.s, .int .i64 t.x, .int .i64 t.y] 72 (0, 0))) := (hb3.block _ (Array.getElem?_eq_some_iff.1 HB2.out).1).trans HB2.out
      clear hb3 HB2 H2
      clear d0 d1 d2 f0 f1 z1 z2 z3 g0
      obtain ⟨⟨d0, d1, d2⟩, ⟨f0, f1⟩, z1, z2, z3⟩ := H3.out.cells
      have g0 := H3.out.c1
      cases hb
      · have y0 : w3.cell? ⟨w1.heap.size, 0, none⟩ = some (.string t.s) := by simp [World.cell?, HB3.out]
        have y1 : w3.cell? ⟨w1.heap.size, 1, none⟩ = some (.int .i64 t.x) := by simp [World.cell?, HB3.out]
        have y2 : w3.cell? ⟨w1.heap.size, 2, none⟩ = some (.int .i64 t.y) := by simp [World.cell?, HB3.out]
        have z4 : w1.heap.size < w3.heap.size := (Array.getElem?_eq_some_iff.1 HB3.out).1
        go_wp2_with fail
        refine (HCT.out _ H3.out.b).mono ?_
        rintro e w4 ⟨rfl, hb4⟩
        have H4 : Hid (TB w (.slice ap np cp) (.slice ak ks.length ck) (.slice ae ne ce) num s w4) := H3.out.keep hb4
        have HB4 : Hid (w4.heap[w1.heap.size]? = some (.cells #[.string t.s, .int .i64 t.x, .int .i64 t.y] 72 (0, 0))) := (hb4.block _ (Array.getElem?_eq_some_iff.1 HB3.out).1).trans HB3.out
        clear hb4 HB3 H3 y0 y1 y2 z4
        clear d0 d1 d2 f0 f1 z1 z2 z3 g0
        obtain ⟨⟨d0, d1, d2⟩, ⟨f0, f1⟩, z1, z2, z3⟩ := H4.out.cells
        have g0 := H4.out.c1
        cases tb
        · skip
          by_cases h6 : 16 ≤ ks.length
          · have h6i : (16 : Int) ≤ (ks.length : Int) := by omega
            go_wp2_with fail
            refine (fault_any num 6 s _).mono ?_
            rintro e w9 ⟨rfl, hb9⟩
            have H9 : Hid (TB w (.slice ap np cp) (.slice ak ks.length ck) (.slice ae ne ce) num s w9) := (H4.out).keep hb9
            have g2 := H9.out.c3
            have hkc : kc = 6 := HC.out.trans (by rw [decide_eq_true h6]; rfl)
            go_wp2_with (refine wpList_store_row rfl 30 _ _ rfl (w.heap.size + 2) #[.slice none 0 0, .slice none 0 0, .slice none 0 0] rfl rfl 30 _ g2 (by kernel_rfl) rfl (by simp [Value.oneCell']) ?_)
            exact bodyPost_ret (v := fail3 num 6) (by simp [results, Tryz.results156, go_sem, cell_setRow_same _ _ _ _ _ _ _ g2, fail3]) rfl ⟨below_setRow H9.out.b (by omega) _, .inl ⟨by rw [hkc]; decide, by rw [hkc]⟩⟩
          · have h6i : ¬ (16 : Int) ≤ (ks.length : Int) := by omega
            have hkc : kc = 0 := HC.out.trans (by rw [decide_eq_false h6]; rfl)
            go_wp2_with fail
            have HSS : Hid (∀ w' : World, Below w4.heap.size w4 w' → w'.cell? ⟨w.heap.size, 1, none⟩ = some (.slice ak ks.length ck) ∧ w'.cell? ⟨w1.heap.size, 0, none⟩ = some (.string t.s) ∧ w'.cell? ⟨w1.heap.size, 1, none⟩ = some (.int .i64 t.x) ∧ w'.cell? ⟨w1.heap.size, 2, none⟩ = some (.int .i64 t.y)) := fun w' hx => by
              have h1 := (H4.out.keep hx).c1
              have h2 := (hx.block _ (Array.getElem?_eq_some_iff.1 HB4.out).1).trans HB4.out
              exact ⟨by simp [World.cell?, h1], by simp [World.cell?, h2], by simp [World.cell?, h2], by simp [World.cell?, h2]⟩
            have HW5 : Hid (w.heap.size < w4.heap.size) := z1
            have HW6 : Hid (w.heap.size + 2 < w4.heap.size) := z3
            clear d0 d1 d2 f0 f1 z1 z2 z3 g0
            refine wp_region_noPanic ?_
            refine wp_region_till (S := fun w' => w'.cell? ⟨w.heap.size, 1, none⟩ = some (.slice ak ks.length ck) ∧ w'.cell? ⟨w1.heap.size, 0, none⟩ = some (.string t.s) ∧ w'.cell? ⟨w1.heap.size, 1, none⟩ = some (.int .i64 t.x) ∧ w'.cell? ⟨w1.heap.size, 2, none⟩ = some (.int .i64 t.y)) 10 (by kernel_rfl) ?_ (fun hHeld => ?_)
            · exact HSS.out _ (Below.refl _ _).drew
            have HBW : Hid (Below w4.heap.size w4 w4.drew) := (Below.refl _ _).drew
            generalize w4.drew = W0 at *
            refine tkT 0 ?_ rfl ?_ ?_; rotate_left
            · intro w hSw; (try dsimp only at hSw); go_simp; try with_reducible rfl
            simp only [Act.put, tkS]
            refine tkT 1 ?_ rfl ?_ ?_; rotate_left
            · intro w hSw; (try dsimp only at hSw); go_simp; try with_reducible rfl
            simp only [Act.put, tkS]
            refine tkT 2 ?_ rfl ?_ ?_; rotate_left
            · intro w hSw; (try dsimp only at hSw); go_simp; try with_reducible rfl
            simp only [Act.put, tkS]
            refine tkT 4 ?_ rfl ?_ ?_; rotate_left
            · intro w hSw; (try dsimp only at hSw); go_simp; try with_reducible rfl
            simp only [Act.put, tkS]
            refine tkT 5 ?_ rfl ?_ ?_; rotate_left
            · intro w hSw; (try dsimp only at hSw); go_simp; try with_reducible rfl
            simp only [Act.put, tkS]
            clear hHeld
            refine wpTill_ready (rs := [3, 6]) (by kernel_rfl) (by simp) ?_
            refine AllReadyT.cons rfl (fun K hK => ?_) (AllReadyT.cons rfl (fun K hK => ?_) AllReadyT.nil)
            · go_simp
              refine (clonePoint_any _ ks _ (HK.out.keep (below_step H4.out.b HBW.out)) (by omega)).mono ?_
              rintro e W1 ⟨u, rfl, hu, hbb⟩
              obtain ⟨ua, uc, rfl⟩ := own_slice hu
              have HB2 : Hid (Below w4.heap.size w4 W1) := below_step HBW.out hbb
              have HU : Hid (W1.ownsRow w4.heap.size 72 3 (.slice ua ks.length uc) ks.length (triRows ks)) := own_mono hu HBW.out.size
              have HLT : Hid (∀ k, (Value.slice ua ks.length uc).ownBlock = some k → k < W1.heap.size) := own_lt hu
              refine hK.out _ _ (.inr (HSS.out _ HB2.out)) ?_
              clear hK K hu hbb HBW
              have HBW := HB2
              clear HB2
              refine rdT 6 rfl (fun K hK => ?_)
              go_simp
              have hbb : Below W1.heap.size W1 (W1.alloc (.cells #[.string t.s, .int .i64 t.x, .int .i64 t.y] 72)) := (Below.refl _ _).alloc (Nat.le_refl _) _
              have HB2 : Hid (Below w4.heap.size w4 (W1.alloc (.cells #[.string t.s, .int .i64 t.x, .int .i64 t.y] 72))) := below_step HBW.out hbb
              have HV : Hid ((W1.alloc (.cells #[.string t.s, .int .i64 t.x, .int .i64 t.y] 72)).heap[W1.heap.size]? = some (.cells #[.string t.s, .int .i64 t.x, .int .i64 t.y] 72 (0, 0))) := heap_newF W1 _
              have HU2 : Hid ((W1.alloc (.cells #[.string t.s, .int .i64 t.x, .int .i64 t.y] 72)).ownsRow w4.heap.size 72 3 (.slice ua ks.length uc) ks.length (triRows ks)) := ownsRow_keep HU.out hbb
              have HNE : Hid ((Value.slice ua ks.length uc).ownBlock ≠ some W1.heap.size) := fun e => Nat.lt_irrefl _ (HLT.out _ e)
              refine hK.out _ _ (.inr (HSS.out _ HB2.out)) ?_
              clear hK K hbb HBW HU HLT
              have HBW := HB2
              have HU := HU2
              clear HB2 HU2
              generalize W1.alloc (.cells #[.string t.s, .int .i64 t.x, .int .i64 t.y] 72) = W2 at *
              refine rdT 7 rfl (fun K hK => ?_)
              go_simp
              refine (insertPoint_any w4.heap.size W1.heap.size (plc ks t.s) _ ks t _ hpl hl HBW.out.size HU.out HNE.out HV.out).mono ?_
              rintro e W3 ⟨v6, rfl, hu6, hb6⟩
              obtain ⟨va, vc, rfl⟩ := own_slice hu6
              have HB2 : Hid (Below w4.heap.size w4 W3) := HBW.out.trans hb6
              refine hK.out _ _ (.inr (HSS.out _ HB2.out)) ?_
              clear hK K HBW HU HV HNE hb6
              have HBW := HB2
              clear HB2
              refine rdT 8 rfl (fun K hK => ?_)
              go_simp
              refine hK.out _ _ (.inr (HSS.out _ HBW.out)) ?_
              clear hK K
              refine rdT 9 rfl (fun K hK => ?_)
              go_simp
              refine hK.out _ _ (.inr (HSS.out _ HBW.out)) ?_
              clear hK K
              refine rdT 10 rfl (fun K hK => ?_)
              have H6 : Hid (TB w (.slice ap np cp) (.slice ak ks.length ck) (.slice ae ne ce) num s W3) := H4.out.keep HBW.out
              have lz : W3.cell? ⟨w.heap.size, 1, none⟩ = some (.slice ak ks.length ck) := (HSS.out _ HBW.out).1
              have lf : W3.frozen? ⟨w.heap.size, 1, none⟩ = false := by simp [World.frozen?, H6.out.c1]
              have H7 := toHidC (H6.out.set1 (.slice va (ks.length + 1) vc))
              have HU7 := toHidC (own_mono (ownsRow_farF hu6 (grown_setF W3 w.heap.size 1 (.slice va (ks.length + 1) vc)) (fun q hq e => by have := own_ge hu6 q hq; have := HW5.out; injection e; omega)) (Nat.le_of_lt HW5.out))
              have HQ : Hid (∀ k, (Value.slice va (ks.length + 1) vc).ownBlock = some k → w.heap.size + 2 < k) := fun k hq => by have := own_ge hu6 k hq; have := HW6.out; omega
              go_simp
              refine hK.out _ _ (.inl rfl) ?_
              clear hK K lz lf hu6 HBW H6
              refine wpTill_done (by kernel_rfl) ?_ _
              refine NoPanic.normal ?_
              generalize W3.setCell ⟨w.heap.size, 1, none⟩ (.slice va (ks.length + 1) vc) = W4 at *
              obtain ⟨⟨d0, d1, d2⟩, ⟨f0, f1⟩, z1, z2, z3⟩ := H7.out.cells
              have g0 := H7.out.c1
              have g2 := H7.out.c3
              go_wp2_with (refine wpList_store_row rfl 30 _ _ rfl (w.heap.size + 2) #[.slice ap np cp, .slice va (ks.length + 1) vc, .slice ae ne ce] rfl rfl 30 _ g2 (by kernel_rfl) rfl (by simp [Value.oneCell']) ?_)
              exact bodyPost_ret (v := .tuple #[.agg #[.slice ap np cp, .slice va (ks.length + 1) vc, .slice ae ne ce], .nilIface]) (by simp [results, Tryz.results156, go_sem, cell_setRow_same _ _ _ _ _ _ _ g2]) rfl ⟨below_setRow H7.out.b (by omega) _, .inr ⟨hkc, _, rfl, ownsRow_farF HU7.out (grown_rowF W4 (w.heap.size + 2) _) (fun q hq e => by have := HQ.out q hq; injection e; omega)⟩⟩
            · go_simp
              have hbb : Below W0.heap.size W0 (W0.alloc (.cells #[.string t.s, .int .i64 t.x, .int .i64 t.y] 72)) := (Below.refl _ _).alloc (Nat.le_refl _) _
              have HB2 : Hid (Below w4.heap.size w4 (W0.alloc (.cells #[.string t.s, .int .i64 t.x, .int .i64 t.y] 72))) := below_step HBW.out hbb
              have HV : Hid ((W0.alloc (.cells #[.string t.s, .int .i64 t.x, .int .i64 t.y] 72)).heap[W0.heap.size]? = some (.cells #[.string t.s, .int .i64 t.x, .int .i64 t.y] 72 (0, 0))) := heap_newF W0 _
              have HLT : Hid (W0.heap.size < (W0.alloc (.cells #[.string t.s, .int .i64 t.x, .int .i64 t.y] 72)).heap.size) := by show _ < _; rw [World.size_alloc]; omega
              refine hK.out _ _ (.inr (HSS.out _ HB2.out)) ?_
              clear hK K hbb HBW
              have HBW := HB2
              clear HB2
              generalize W0.alloc (.cells #[.string t.s, .int .i64 t.x, .int .i64 t.y] 72) = W1 at *
              refine rdT 3 rfl (fun K hK => ?_)
              go_simp
              refine (clonePoint_any _ ks _ (HK.out.keep (below_step H4.out.b HBW.out)) (by omega)).mono ?_
              rintro e W2 ⟨u, rfl, hu, hbb⟩
              obtain ⟨ua, uc, rfl⟩ := own_slice hu
              have HB2 : Hid (Below w4.heap.size w4 W2) := below_step HBW.out hbb
              have HU : Hid (W2.ownsRow w4.heap.size 72 3 (.slice ua ks.length uc) ks.length (triRows ks)) := own_mono hu HBW.out.size
              have HNE : Hid ((Value.slice ua ks.length uc).ownBlock ≠ some W0.heap.size) := fun e => by have := own_ge hu _ e; have := HLT.out; omega
              have HV2 : Hid (W2.heap[W0.heap.size]? = some (.cells #[.string t.s, .int .i64 t.x, .int .i64 t.y] 72 (0, 0))) := (hbb.block _ HLT.out).trans HV.out
              refine hK.out _ _ (.inr (HSS.out _ HB2.out)) ?_
              clear hK K hu hbb HBW HV HLT
              have HBW := HB2
              have HV := HV2
              clear HB2 HV2
              refine rdT 7 rfl (fun K hK => ?_)
              go_simp
              refine (insertPoint_any w4.heap.size W0.heap.size (plc ks t.s) _ ks t _ hpl hl HBW.out.size HU.out HNE.out HV.out).mono ?_
              rintro e W3 ⟨v6, rfl, hu6, hb6⟩
              obtain ⟨va, vc, rfl⟩ := own_slice hu6
              have HB2 : Hid (Below w4.heap.size w4 W3) := HBW.out.trans hb6
              refine hK.out _ _ (.inr (HSS.out _ HB2.out)) ?_
              clear hK K HBW HU HV HNE hb6
              have HBW := HB2
              clear HB2
              refine rdT 8 rfl (fun K hK => ?_)
              go_simp
              refine hK.out _ _ (.inr (HSS.out _ HBW.out)) ?_
              clear hK K
              refine rdT 9 rfl (fun K hK => ?_)
              go_simp
              refine hK.out _ _ (.inr (HSS.out _ HBW.out)) ?_
              clear hK K
              refine rdT 10 rfl (fun K hK => ?_)
              have H6 : Hid (TB w (.slice ap np cp) (.slice ak ks.length ck) (.slice ae ne ce) num s W3) := H4.out.keep HBW.out
              have lz : W3.cell? ⟨w.heap.size, 1, none⟩ = some (.slice ak ks.length ck) := (HSS.out _ HBW.out).1
              have lf : W3.frozen? ⟨w.heap.size, 1, none⟩ = false := by simp [World.frozen?, H6.out.c1]
              have H7 := toHidC (H6.out.set1 (.slice va (ks.length + 1) vc))
              have HU7 := toHidC (own_mono (ownsRow_farF hu6 (grown_setF W3 w.heap.size 1 (.slice va (ks.length + 1) vc)) (fun q hq e => by have := own_ge hu6 q hq; have := HW5.out; injection e; omega)) (Nat.le_of_lt HW5.out))
              have HQ : Hid (∀ k, (Value.slice va (ks.length + 1) vc).ownBlock = some k → w.heap.size + 2 < k) := fun k hq => by have := own_ge hu6 k hq; have := HW6.out; omega
              go_simp
              refine hK.out _ _ (.inl rfl) ?_
              clear hK K lz lf hu6 HBW H6
              refine wpTill_done (by kernel_rfl) ?_ _
              refine NoPanic.normal ?_
              generalize W3.setCell ⟨w.heap.size, 1, none⟩ (.slice va (ks.length + 1) vc) = W4 at *
              obtain ⟨⟨d0, d1, d2⟩, ⟨f0, f1⟩, z1, z2, z3⟩ := H7.out.cells
              have g0 := H7.out.c1
              have g2 := H7.out.c3
              go_wp2_with (refine wpList_store_row rfl 30 _ _ rfl (w.heap.size + 2) #[.slice ap np cp, .slice va (ks.length + 1) vc, .slice ae ne ce] rfl rfl 30 _ g2 (by kernel_rfl) rfl (by simp [Value.oneCell']) ?_)
              exact bodyPost_ret (v := .tuple #[.agg #[.slice ap np cp, .slice va (ks.length + 1) vc, .slice ae ne ce], .nilIface]) (by simp [results, Tryz.results156, go_sem, cell_setRow_same _ _ _ _ _ _ _ g2]) rfl ⟨below_setRow H7.out.b (by omega) _, .inr ⟨hkc, _, rfl, ownsRow_farF HU7.out (grown_rowF W4 (w.heap.size + 2) _) (fun q hq e => by have := HQ.out q hq; injection e; omega)⟩⟩
        · go_wp2_with fail
          refine (fault_any num 5 s _).mono ?_
          rintro e w9 ⟨rfl, hb9⟩
          have H9 : Hid (TB w (.slice ap np cp) (.slice ak ks.length ck) (.slice ae ne ce) num s w9) := (H4.out).keep hb9
          have g2 := H9.out.c3
          have hkc : kc = 5 := HC.out
          go_wp2_with (refine wpList_store_row rfl 30 _ _ rfl (w.heap.size + 2) #[.slice none 0 0, .slice none 0 0, .slice none 0 0] rfl rfl 30 _ g2 (by kernel_rfl) rfl (by simp [Value.oneCell']) ?_)
          exact bodyPost_ret (v := fail3 num 5) (by simp [results, Tryz.results156, go_sem, cell_setRow_same _ _ _ _ _ _ _ g2, fail3]) rfl ⟨below_setRow H9.out.b (by omega) _, .inl ⟨by rw [hkc]; decide, by rw [hkc]⟩⟩
      · go_wp2_with fail
        refine (fault_any num 4 s _).mono ?_
        rintro e w4 ⟨rfl, hb4⟩
        have H4 : Hid (TB w (.slice ap np cp) (.slice ak ks.length ck) (.slice ae ne ce) num s w4) := (H3.out).keep hb4
        have g2 := H4.out.c3
        have hkc : kc = 4 := HC.out
        go_wp2_with (refine wpList_store_row rfl 30 _ _ rfl (w.heap.size + 2) #[.slice none 0 0, .slice none 0 0, .slice none 0 0] rfl rfl 30 _ g2 (by kernel_rfl) rfl (by simp [Value.oneCell']) ?_)
        exact bodyPost_ret (v := fail3 num 4) (by simp [results, Tryz.results156, go_sem, cell_setRow_same _ _ _ _ _ _ _ g2, fail3]) rfl ⟨below_setRow H4.out.b (by omega) _, .inl ⟨by rw [hkc]; decide, by rw [hkc]⟩⟩
end Go.Proofs.YtcmgddnckohdaaaGreatDoor.Tx
