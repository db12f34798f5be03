import Derived.Test.YtibpkhmiahamcaaGreatDm1
namespace Go.Proofs.YtibpkhmiahamcaaGreat.Dr
open Go.RowKit Go.Proofs.YtibpkhmiahamcaaGreat
attribute [local go_sem] Later.cell Later.frozen
set_option linter.unusedSimpArgs false
set_option linter.unusedVariables false
theorem chgRows_set : ∀ (l : List Chg) (k : Nat) (c c' : Chg), l[k]? = some c → chgRows (l.set k c') = ((((chgRows l).set (k * 4) (.string c'.f)).set (k * 4 + 1) (.int .i64 c'.what)).set (k * 4 + 2) (.int .i64 c'.num)).set (k * 4 + 3) (.string c'.v)
 | [], k, c, c', h => by simp at h
 | a :: l, 0, c, c', h => by simp [chgRows, chgRow]
 | a :: l, k + 1, c, c', h => by
  have e : chgRows (a :: l) = chgRow a ++ chgRows l := by simp [chgRows]
  have e' : chgRows ((a :: l).set (k + 1) c') = chgRow a ++ chgRows (l.set k c') := by simp [chgRows]
  have hl : (chgRow a).length = 4 := rfl
  have one : ∀ (m : List Value) (j : Nat) (x : Value), (chgRow a ++ m).set ((k + 1) * 4 + j) x = chgRow a ++ m.set (k * 4 + j) x := fun m j x => by
   rw [List.set_append_right _ _ (by omega), hl]
   congr 2
   omega
  rw [e, e', chgRows_set l k c c' (by simpa using h)]
  have o0 := one (chgRows l) 0 (.string c'.f)
  rw [Nat.add_zero, Nat.add_zero] at o0
  rw [o0, one, one, one]
  rfl
theorem own_set4 {w : World} {base g n cap k : Nat} {l : List Chg} {c : Chg} (h : w.ownsRow base 31 4 (.slice (some ⟨g, 0, none⟩) n cap) n (chgRows l)) (hn : l.length = n) (hk : k < n) : (w.setCells g (k * 4) [.string c.f, .int .i64 c.what, .int .i64 c.num, .string c.v]).ownsRow base 31 4 (.slice (some ⟨g, 0, none⟩) n cap) n (chgRows (l.set k c)) := by
 rw [chgRows_set l k _ c (cat_get (by omega))]
 exact own_setD (own_setD (own_setD (own_setD h (by omega)) (by omega)) (by omega)) (by omega)
theorem there4 {w : World} {base g n cap k : Nat} {l : List Chg} (h : w.ownsRow base 31 4 (.slice (some ⟨g, 0, none⟩) n cap) n (chgRows l)) (hk : k < n) : w.there g (k * 4) 4 := by
 obtain ⟨h1, h2⟩ := h
 rcases h2 with ⟨h0, hn⟩ | ⟨g', cap', cur, hv, hg, hc, hn, hm, hs, ht⟩
 ·cases h0
 ·cases hv
  intro j hj
  have hlt : k * 4 + j < cur.size := by have := Nat.mul_le_mul_right 4 (show k + 1 ≤ cap by omega); omega
  exact ⟨by simp [World.cell?, hc, hlt], by simp [World.frozen?, hc]⟩
theorem set4_heap (w : World) (g o : Nat) (a b c d : Value) (q : Nat) (hq : q ≠ g) : (w.setCells g o [a, b, c, d]).heap[q]? = w.heap[q]? := by
 show ((((w.setCell ⟨g, o, none⟩ a).setCell ⟨g, o + 1, none⟩ b).setCell ⟨g, o + 1 + 1, none⟩ c).setCell ⟨g, o + 1 + 1 + 1, none⟩ d).heap[q]? = _
 rw [Below.heap_setCell _ ⟨g, o + 1 + 1 + 1, none⟩ d q hq, Below.heap_setCell _ ⟨g, o + 1 + 1, none⟩ c q hq, Below.heap_setCell _ ⟨g, o + 1, none⟩ b q hq, Below.heap_setCell _ ⟨g, o, none⟩ a q hq]
theorem set4_grown {w W : World} {R g o : Nat} {a b c d : Value} (h : w.grownBy W (some R)) (hg : w.heap.size ≤ g) : w.grownBy (W.setCells g o [a, b, c, d]) (some R) :=
 grown_cell (grown_cell (grown_cell (grown_cell h _ a hg) _ b hg) _ c hg) _ d hg
theorem ChgsAt_str {w w' : World} {v : Value} {l : List Chg} (h : ChgsAt w v l) (hs : Str w w') : ChgsAt w' v l := by
 obtain ⟨a, cap, rfl, h1, h2, h3⟩ := h
 refine ⟨a, cap, rfl, h1, h2, fun i t ht => ?_⟩
 obtain ⟨b, off, e, d0, d1, d2, d3⟩ := h3 i t ht
 have hb := hs _ _ _ d0
 exact ⟨b, off, e, cell_same hb d0, cell_same hb d1, cell_same hb d2, cell_same hb d3⟩
structure DL (w wr : World) (R q : Nat) (v : Value) (n : Nat) (l : List Chg) : Prop where
 rd : Rd wr R q
 gr : w.grownBy wr (some R)
 ow : wr.ownsRow w.heap.size 31 4 v n (chgRows l)
 len : l.length = n
 sm : ∀ c ∈ l, SmC c
theorem DL.at {w wr : World} {R q n : Nat} {v : Value} {l : List Chg} (h : DL w wr R q v n l) : ChgsAt wr v l := by
 have h1 := h.ow
 rw [← h.len] at h1
 exact ChgsNew.at h1
theorem DL.cells {w wr : World} {R q n g cap k : Nat} {l : List Chg} (h : DL w wr R q (.slice (some ⟨g, 0, none⟩) n cap) n l) (hk : k < n) : ChgAt wr g (k * 4) (cat' l k) ∧ SmC (cat' l k) := by
 have hl : k < l.length := by have := h.len; omega
 obtain ⟨a, c', hv, -, -, h3⟩ := h.at
 obtain ⟨b, off, hb, hc⟩ := h3 k _ (cat_get hl)
 injection hv with e1 e2 e3
 rw [hb] at e1
 cases e1
 rw [Nat.zero_add] at hc
 exact ⟨hc, h.sm _ (List.mem_of_getElem? (cat_get hl))⟩
theorem DL.grow {w wr wx : World} {R q qx n : Nat} {v : Value} {l : List Chg} (h : DL w wr R q v n l) (hR : R < w.heap.size) (hr : Rd wx R qx) (hg : wr.grownBy wx (some R)) : DL w wx R qx v n l := ⟨hr, grown_on h.gr hg, own_box h.ow hg hR, h.len, h.sm⟩
theorem DL.set {w wr : World} {R q n g cap k : Nat} {l : List Chg} {c : Chg} (h : DL w wr R q (.slice (some ⟨g, 0, none⟩) n cap) n l) (hR : R < w.heap.size) (hk : k < n) (hc : SmC c) : DL w (wr.setCells g (k * 4) [.string c.f, .int .i64 c.what, .int .i64 c.num, .string c.v]) R q (.slice (some ⟨g, 0, none⟩) n cap) n (l.set k c) := by
 have hg : w.heap.size ≤ g := own_geD h.ow g rfl
 exact ⟨h.rd.late (fun j hj => set4_heap _ _ _ _ _ _ _ _ (by omega)), set4_grown h.gr hg, own_set4 h.ow h.len hk, by rw [List.length_set]; exact h.len, fun x hx => by
  rcases List.mem_or_eq_of_mem_set hx with h1 | h1
  ·exact h.sm x h1
  ·rw [h1]; exact hc⟩
set_option maxRecDepth 100000 in
set_option maxHeartbeats 6400000 in
theorem drawTakeAll_any (v : Value) (n : Nat) (w : World) (h : BysArg w v n) :
  Calls Tryz.prog 19 #[v] w fun e w' => ∃ (x y z u : Value) (ks ps : List Tri) (es : List Ent) (L : List Chg), e = .returned (.tuple #[.agg #[x, y, z], u]) ∧ BookAt w' x y z ks ps es ∧ SmB (ks, ps, es) ∧ ChgsAt w' u L ∧ L.length ≤ 24 ∧ (∀ c ∈ L, SmC c) ∧ Below w.heap.size w w' := by
 have HA := toHid h
 obtain ⟨a, cap, rfl, -⟩ := h
 have HB : Hid (Bxs w (w.alloc (.cells #[.slice none 0 0, .slice none 0 0, .slice none 0 0] 29)) [(w.heap.size, #[.slice none 0 0, .slice none 0 0, .slice none 0 0], 29)]) := ⟨(Below.refl _ _).alloc (Nat.le_refl _) _, fun p hp => by
  simp only [List.mem_cons, List.not_mem_nil, or_false] at hp
  subst hp
  exact heap_newD w _⟩
 go_enter Tryz.func19, Tryz.ntmps19
 go_wp2_with fail
 generalize (w.alloc (.cells #[.slice none 0 0, .slice none 0 0, .slice none 0 0] 29)) = w1 at *
 refine (l1Open_any _ n _ (HA.out.keep HB.out.below)).mono ?_
 rintro e w2 ⟨R, rfl, hR, hr2, hb2⟩
 have hRw : w.heap.size < R := by have := HB.out.lt (p := (w.heap.size, #[.slice none 0 0, .slice none 0 0, .slice none 0 0], 29)) (by simp); dsimp only at this; omega
 have D2 : Hid (DM w w2 R 0 [(w.heap.size, #[.slice none 0 0, .slice none 0 0, .slice none 0 0], 29)]) := ⟨hr2, HB.out.call hb2, by omega, fun p hp => by
  simp only [List.mem_cons, List.not_mem_nil, or_false] at hp
  subst hp
  show w.heap.size ≠ R; omega⟩
 clear hr2 hb2 HB hR
 go_wp2_with fail
 refine (l1Base_all R 0 _ D2.out.rd (by omega)).mono ?_
 rintro e w3 ⟨kv, pv, ks, ps, rfl, htk, htp, hkb, hpb, hp1, hk1, q3, hq0, hq1, hr3, hg3⟩
 have HT3 : Hid (TrisAt w3 kv ks ∧ TrisAt w3 pv ps) := ⟨tris_own htk, tris_own htp⟩
 obtain ⟨ka, kc, rfl⟩ := own_sliceD htk
 obtain ⟨pa, pc, rfl⟩ := own_sliceD htp
 have KB := toHid hkb
 have PB := toHid hpb
 have D4 := toHid ((D2.out.grow hr3 hg3).push #[.slice ka ks.length kc, .slice pa ps.length pc] 26)
 have S4 : Hid (Str w3 (w3.alloc (.cells #[.slice ka ks.length kc, .slice pa ps.length pc] 26))) := Str.below ((Below.refl _ _).alloc (Nat.le_refl _) _)
 have HT4 : Hid (TrisAt (w3.alloc (.cells #[.slice ka ks.length kc, .slice pa ps.length pc] 26)) (.slice ka ks.length kc) ks ∧ TrisAt (w3.alloc (.cells #[.slice ka ks.length kc, .slice pa ps.length pc] 26)) (.slice pa ps.length pc) ps) := ⟨S4.out.tris HT3.out.1, S4.out.tris HT3.out.2⟩
 clear hr3 hg3 htk htp hkb hpb D2 HT3 S4
 go_wp2_with fail
 generalize (w3.alloc (.cells #[.slice ka ks.length kc, .slice pa ps.length pc] 26)) = w4 at *
 generalize w3.heap.size = BB at *
 refine (l3Book_any R q3 _ _ ks ps _ D4.out.rd (by omega) HT4.out.1 HT4.out.2 KB.out PB.out hp1).mono ?_
 rintro e w5 ⟨x, y, z, es, rfl, hbn, hok, hsm, q5, hq2, hq3, hr5, hg5⟩
 obtain ⟨a1, c1, a2, c2, a3, c3, rfl, rfl, rfl⟩ := hbn.slices
 have S5 := Str.rd D4.out.rd hg5
 have D6 := toHid ((D4.out.grow hr5 hg5).push #[.slice a1 ks.length c1, .slice a2 ps.length c2, .slice a3 es.length c3] 29)
 have S6 : Str w5 (w5.alloc (.cells #[.slice a1 ks.length c1, .slice a2 ps.length c2, .slice a3 es.length c3] 29)) := Str.below ((Below.refl _ _).alloc (Nat.le_refl _) _)
 have HT6 : Hid (TrisAt (w5.alloc (.cells #[.slice a1 ks.length c1, .slice a2 ps.length c2, .slice a3 es.length c3] 29)) (.slice ka ks.length kc) ks ∧ TrisAt (w5.alloc (.cells #[.slice a1 ks.length c1, .slice a2 ps.length c2, .slice a3 es.length c3] 29)) (.slice pa ps.length pc) ps ∧ BookAt (w5.alloc (.cells #[.slice a1 ks.length c1, .slice a2 ps.length c2, .slice a3 es.length c3] 29)) (.slice a1 ks.length c1) (.slice a2 ps.length c2) (.slice a3 es.length c3) ks ps es) := ⟨(S5.trans S6).tris HT4.out.1, (S5.trans S6).tris HT4.out.2, S6.book hbn.at⟩
 have OKA : Hid (bookB ks ps es = true ∧ SmB (ks, ps, es)) := ⟨hok, hsm⟩
 have HBA : Hid (w.heap.size < w5.heap.size) := by
  have h1 := (D4.out.grow hr5 hg5).bx.lt (p := (w.heap.size, #[.slice none 0 0, .slice none 0 0, .slice none 0 0], 29)) (by simp)
  exact h1
 clear hr5 hg5 hbn hok hsm S5 S6 D4 HT4
 have c0 := D6.out.bx.cell 1 rfl 0
 have c1' := D6.out.bx.cell 1 rfl 1
 go_wp2_with fail
 clear c0 c1'
 have hBA : w.heap.size < w5.heap.size := HBA.out
 clear HBA
 generalize (w5.alloc (.cells #[.slice a1 ks.length c1, .slice a2 ps.length c2, .slice a3 es.length c3] 29)) = w6 at *
 generalize w5.heap.size = BA at *
 refine (l3Changes_any R q5 _ _ ps 20 _ D6.out.rd (by omega) ⟨by omega, by omega⟩ HT6.out.2.1 ⟨hp1, by have := (points_le PB.out).1; omega⟩ (fun t ht => by have := (points_le PB.out).2 t ht; omega)).mono ?_
 rintro e w7 ⟨v, l, rfl, hln, hl24, hlc, q7, hq4, hq5, hr7, hg7⟩
 have hR6 : R < w6.heap.size := D6.out.rd.lt
 have L7 : Hid (DL w6 w7 R q7 v l.length l) := ⟨hr7, hg7, hln, rfl, hlc⟩
 obtain ⟨la, lc, rfl⟩ := own_sliceD hln
 clear hr7 hg7 hln hlc
 go_wp2_with fail
 go_loopw [8] (fun i wr => ∃ (k q : Nat) (l' : List Chg), k ≤ l.length ∧ i = .int .i64 k ∧ q ≤ q7 + 20 * k ∧ Hid (DL w6 wr R q (.slice la l.length lc) l.length l')) (fun i _ => l.length - (intOf i).toNat)
 case atStart => exact ⟨0, q7, l, Nat.zero_le _, rfl, by omega, L7.out⟩
 case round =>
  clear L7
  obtain ⟨k, q, l', hk, rfl, hq, HL⟩ := hrel
  by_cases hlt : k < l.length
  ·have hk0 : (0 : Int) ≤ (k : Int) := by omega
   have hk1' : (k : Int) < (l.length : Int) := by omega
   go_wp2_with fail
   refine (pick_any R q 12 _ HL.out.rd (by omega) (by omega)).mono ?_
   rintro e w8 ⟨x, rfl, hx0, hx1, -, hr8, hg8⟩
   have L8 := toHid (HL.out.grow hR6 hr8 hg8)
   clear hr8 hg8 HL hx0 hx1
   by_cases hx : x = 0
   ·have hxb : (x == 0) = true := by simp [hx]
    clear hx
    obtain ⟨g, cap', hv, hlc, hcm⟩ := own_someD L8.out.ow (by omega)
    unfold maxLen at hcm
    cases hv
    obtain ⟨⟨d0, d1, d2, d3⟩, hsf, hsv⟩ := L8.out.cells hlt
    generalize cat' l' k = cc at *
    go_wp2_with fail
    clear d0 d1 d2 d3
    refine (l2SpoilChange_any R (q + 1) cc.f cc.what cc.num cc.v _ L8.out.rd (by omega) hsf hsv).mono ?_
    rintro e w9 ⟨f', wh', num', s', rfl, hf', hs', q9, hq6, hq7, hr9, hg9⟩
    have L9 := toHid (L8.out.grow hR6 hr9 hg9)
    have hth : w9.there g (k * 4) #[Value.string f', .int .i64 wh', .int .i64 num', .string s'].size := there4 L9.out.ow hlt
    have LA : Hid (DL w6 (w9.setCells g (k * 4) #[Value.string f', .int .i64 wh', .int .i64 num', .string s'].toList) R q9 (.slice (some ⟨g, 0, none⟩) l.length lc) l.length (l'.set k ⟨f', wh', num', s'⟩)) := L9.out.set (c := ⟨f', wh', num', s'⟩) hR6 hlt ⟨hf', hs'⟩
    clear hr9 hg9 L8 L9
    go_wp2_with (refine wpList_store_mid rfl 31 _ _ rfl g (k * 4) #[.string f', .int .i64 wh', .int .i64 num', .string s'] rfl rfl hth (by kernel_rfl) (by simp [Value.oneCell']) ?_; clear hth; generalize (w9.setCells g (k * 4) #[Value.string f', .int .i64 wh', .int .i64 num', .string s'].toList) = wB at *)
    exact ⟨⟨k + 1, q9, _, by omega, by go_num, by omega, LA⟩, by simp [intOf]; omega⟩
   ·have hxb : (x == 0) = false := by simp [hx]
    clear hx
    go_wp2_with fail
    exact ⟨⟨k + 1, q + 1, l', by omega, by go_num, by omega, L8⟩, by simp [intOf]; omega⟩
  ·have hke : k = l.length := by omega
   go_wp2_with fail
   refine (pick_any R q 20 _ HL.out.rd (by omega) (by omega)).mono ?_
   rintro e w8 ⟨x, rfl, hx0, hx1, -, hr8, hg8⟩
   have L8 := toHid (HL.out.grow hR6 hr8 hg8)
   have D8 := toHid (D6.out.grow L8.out.rd L8.out.gr)
   have B8 : Hid (BookAt w8 (.slice a1 ks.length c1) (.slice a2 ps.length c2) (.slice a3 es.length c3) ks ps es) := (Str.rd D6.out.rd L8.out.gr).book HT6.out.2.2
   clear hr8 hg8 HL hx0 hx1 HT6 D6
   by_cases hx : x = 0
   ·have hxb : (x == 0) = true := by simp [hx]
    clear hx
    obtain ⟨p0, p1, p2⟩ : w8.cell? ⟨BA, 0, none⟩ = some (.slice a1 ks.length c1) ∧ w8.cell? ⟨BA, 1, none⟩ = some (.slice a2 ps.length c2) ∧ w8.cell? ⟨BA, 2, none⟩ = some (.slice a3 es.length c3) := ⟨D8.out.bx.cell 0 rfl 0, D8.out.bx.cell 0 rfl 1, D8.out.bx.cell 0 rfl 2⟩
    go_wp2_with fail
    clear p0 p1 p2
    refine (l3Spoil_any R (q + 1) _ _ _ ks ps es _ D8.out.rd (by omega) B8.out OKA.out.1 OKA.out.2 hk1 hp1).mono ?_
    rintro e wA ⟨x', y', z', ks', ps', es', rfl, hat, hsp, q6, hq6, hq7, hrA, hgA⟩
    obtain ⟨t1, e1, t2, e2, t3, e3, rfl, rfl, rfl⟩ := BookAt.slices hat.at
    have hBX := (D8.out.grow hrA hgA).bx.has (BA, #[.slice a1 ks.length c1, .slice a2 ps.length c2, .slice a3 es.length c3], 29) (by simp)
    have HP : Hid (Below w.heap.size w (wA.setRow BA #[.slice t1 ks'.length e1, .slice t2 ps'.length e2, .slice t3 es'.length e3]) ∧ (wA.setRow BA #[.slice t1 ks'.length e1, .slice t2 ps'.length e2, .slice t3 es'.length e3]).heap[w.heap.size]? = some (.cells #[.slice none 0 0, .slice none 0 0, .slice none 0 0] 29 (0, 0)) ∧ (wA.setRow BA #[.slice t1 ks'.length e1, .slice t2 ps'.length e2, .slice t3 es'.length e3]).heap[BA]? = some (.cells #[.slice t1 ks'.length e1, .slice t2 ps'.length e2, .slice t3 es'.length e3] 29 (0, 0)) ∧ BookAt (wA.setRow BA #[.slice t1 ks'.length e1, .slice t2 ps'.length e2, .slice t3 es'.length e3]) (.slice t1 ks'.length e1) (.slice t2 ps'.length e2) (.slice t3 es'.length e3) ks' ps' es' ∧ SmB (ks', ps', es') ∧ ChgsAt (wA.setRow BA #[.slice t1 ks'.length e1, .slice t2 ps'.length e2, .slice t3 es'.length e3]) (.slice la l.length lc) l' ∧ l'.length ≤ 24 ∧ ∀ c ∈ l', SmC c) := by
     have hD := D8.out.grow hrA hgA
     have h1 := Str.row3 hBX #[.slice t1 ks'.length e1, .slice t2 ps'.length e2, .slice t3 es'.length e3]
     exact ⟨below_setRow hD.bx.below (by omega) _, (setRow_other _ _ _ _ (by omega)).trans (hD.bx.has (w.heap.size, #[.slice none 0 0, .slice none 0 0, .slice none 0 0], 29) (by simp)), setRow_heap _ _ _ _ _ _ hBX, h1.book hat.at, hsp.1, ChgsAt_str L8.out.at ((Str.rd D8.out.rd hgA).trans h1), by rw [L8.out.len]; exact hl24, L8.out.sm⟩
    clear hrA hgA hat hsp D8 B8 L8 OKA
    have b0 := cell_blkD HP.out.2.2.1 (i := 0) rfl
    have b1 := cell_blkD HP.out.2.2.1 (i := 1) rfl
    have b2 := cell_blkD HP.out.2.2.1 (i := 2) rfl
    have hR0 := HP.out.2.1
    go_wp2_with (first | (refine wpList_store_row rfl 29 _ _ rfl BA #[.slice t1 ks'.length e1, .slice t2 ps'.length e2, .slice t3 es'.length e3] rfl rfl 29 _ hBX (by kernel_rfl) rfl (by simp [Value.oneCell']) ?_; clear hBX; generalize (wA.setRow BA #[.slice t1 ks'.length e1, .slice t2 ps'.length e2, .slice t3 es'.length e3]) = wB at *) | refine wpList_store_row rfl 29 _ _ rfl w.heap.size #[.slice t1 ks'.length e1, .slice t2 ps'.length e2, .slice t3 es'.length e3] rfl rfl 29 _ hR0 (by kernel_rfl) rfl (by simp [Value.oneCell']) ?_)
    have k0 := setRow_heap _ _ _ #[.slice t1 ks'.length e1, .slice t2 ps'.length e2, .slice t3 es'.length e3] _ _ hR0
    have h00 := cell_blkD k0 (i := 0) rfl
    have h01 := cell_blkD k0 (i := 1) rfl
    have h02 := cell_blkD k0 (i := 2) rfl
    exact bodyPost_ret (v := .tuple #[.agg #[.slice t1 ks'.length e1, .slice t2 ps'.length e2, .slice t3 es'.length e3], .slice la l.length lc]) (by simp [results, Tryz.results19, go_sem, h00, h01, h02]) rfl ⟨_, _, _, _, _, _, _, l', rfl, (Str.row3 hR0 _).book HP.out.2.2.2.1, HP.out.2.2.2.2.1, ChgsAt_str HP.out.2.2.2.2.2.1 (Str.row3 hR0 _), HP.out.2.2.2.2.2.2.1, HP.out.2.2.2.2.2.2.2, below_setRow HP.out.1 (Nat.le_refl _) _⟩
   ·have hxb : (x == 0) = false := by simp [hx]
    clear hx
    have HP : Hid (Below w.heap.size w w8 ∧ w8.heap[w.heap.size]? = some (.cells #[.slice none 0 0, .slice none 0 0, .slice none 0 0] 29 (0, 0)) ∧ w8.heap[BA]? = some (.cells #[.slice a1 ks.length c1, .slice a2 ps.length c2, .slice a3 es.length c3] 29 (0, 0)) ∧ BookAt w8 (.slice a1 ks.length c1) (.slice a2 ps.length c2) (.slice a3 es.length c3) ks ps es ∧ SmB (ks, ps, es) ∧ ChgsAt w8 (.slice la l.length lc) l' ∧ l'.length ≤ 24 ∧ ∀ c ∈ l', SmC c) := ⟨D8.out.bx.below, D8.out.bx.has (w.heap.size, #[.slice none 0 0, .slice none 0 0, .slice none 0 0], 29) (by simp), D8.out.bx.has (BA, #[.slice a1 ks.length c1, .slice a2 ps.length c2, .slice a3 es.length c3], 29) (by simp), B8.out, OKA.out.2, L8.out.at, by rw [L8.out.len]; exact hl24, L8.out.sm⟩
    clear D8 B8 L8 OKA
    have b0 := cell_blkD HP.out.2.2.1 (i := 0) rfl
    have b1 := cell_blkD HP.out.2.2.1 (i := 1) rfl
    have b2 := cell_blkD HP.out.2.2.1 (i := 2) rfl
    have hR0 := HP.out.2.1
    go_wp2_with (refine wpList_store_row rfl 29 _ _ rfl w.heap.size #[.slice a1 ks.length c1, .slice a2 ps.length c2, .slice a3 es.length c3] rfl rfl 29 _ hR0 (by kernel_rfl) rfl (by simp [Value.oneCell']) ?_)
    have k0 := setRow_heap _ _ _ #[.slice a1 ks.length c1, .slice a2 ps.length c2, .slice a3 es.length c3] _ _ hR0
    have h00 := cell_blkD k0 (i := 0) rfl
    have h01 := cell_blkD k0 (i := 1) rfl
    have h02 := cell_blkD k0 (i := 2) rfl
    exact bodyPost_ret (v := .tuple #[.agg #[.slice a1 ks.length c1, .slice a2 ps.length c2, .slice a3 es.length c3], .slice la l.length lc]) (by simp [results, Tryz.results19, go_sem, h00, h01, h02]) rfl ⟨_, _, _, _, _, _, _, l', rfl, (Str.row3 hR0 _).book HP.out.2.2.2.1, HP.out.2.2.2.2.1, ChgsAt_str HP.out.2.2.2.2.2.1 (Str.row3 hR0 _), HP.out.2.2.2.2.2.2.1, HP.out.2.2.2.2.2.2.2, below_setRow HP.out.1 (Nat.le_refl _) _⟩
end Go.Proofs.YtibpkhmiahamcaaGreat.Dr
