import Derived.Test.YtcmgddnckohdaaaGreatDoorLk2
import Derived.Test.YtcmgddnckohdaaaGreatDoorFo
namespace Go.Proofs.YtcmgddnckohdaaaGreatDoor.Tx
open Go.RowKit Go.Proofs.YtcmgddnckohdaaaGreatDoor Go.Proofs.YtcmgddnckohdaaaGreatDoor.Sd
set_option linter.unusedSimpArgs false
set_option linter.unusedVariables false
noncomputable def parR (s : ByteArray) : Bk × Nat × Int := bif longB s then (([], [], []), 0, 1) else parseL rdS ([], [], []) 0 (linesL s)
theorem parseL_none {rd : ByteArray → Chg × Bool} : ∀ (L : List ByteArray) (b : Bk) (i : Nat), (parseL rd b i L).2.2 ≠ 0 → (parseL rd b i L).1 = ([], [], [])
  | [], b, i, h => absurd rfl h
  | l :: r, b, i, h => by
    by_cases h0 : lineC rd b l = 0
    · rw [parseL_hit h0] at h ⊢
      exact parseL_none r _ _ h
    · rw [parseL_bad h0]
theorem parseL_zero {rd : ByteArray → Chg × Bool} : ∀ (L : List ByteArray) (b : Bk) (i : Nat), (parseL rd b i L).2.2 = 0 → (parseL rd b i L).2.1 = 0
  | [], b, i, h => rfl
  | l :: r, b, i, h => by
    by_cases h0 : lineC rd b l = 0
    · rw [parseL_hit h0] at h ⊢
      exact parseL_zero r _ _ h
    · rw [parseL_bad h0] at h
      exact absurd h h0
theorem parR_none {s : ByteArray} (h : (parR s).2.2 ≠ 0) : (parR s).1 = ([], [], []) := by
  unfold parR at h ⊢
  cases hl : longB s
  · rw [hl] at h; exact parseL_none _ _ _ h
  · rfl
theorem parR_zero {s : ByteArray} (h : (parR s).2.2 = 0) : (parR s).2.1 = 0 := by
  unfold parR at h ⊢
  cases hl : longB s
  · rw [hl] at h; exact parseL_zero _ _ _ h
  · rfl
theorem parseL_gd : ∀ (L : List ByteArray) (b : Bk) (i : Nat), Gd b → (∀ l ∈ L, l.size ≤ 1048576) → Gd (parseL rdS b i L).1
  | [], b, i, h, _ => h
  | l :: r, b, i, h, hL => by
    by_cases h0 : lineC rdS b l = 0
    · rw [parseL_hit h0]
      have hl := hL l (by simp)
      exact parseL_gd r _ _ (h.line hl (rdS_all l hl).2.2.2.2 h0) (fun x hx => hL x (by simp [hx]))
    · rw [parseL_bad h0]
      exact Gd.none
theorem wat_idx {L : List ByteArray} {k : Nat} (h : k < L.length) : wat L k = L[k] := by simp [wat, h]
theorem strs_box {w : World} {v : Value} {L : List ByteArray} {X : Nat} {T : TypeId} {a1 a3 a5 : Option Addr} {n1 n2 n3 a2 a4 a6 : Nat} {C : Array Value} (h : StrsAt w v L) (hX : w.heap[X]? = some (.cells #[.slice a1 n1 a2, .slice a3 n2 a4, .slice a5 n3 a6] T (0, 0))) : StrsAt (w.setRow X C) v L := by
  obtain ⟨g, off, cap, rfl, h1, h2, h3⟩ := h
  refine ⟨g, off, cap, rfl, h1, h2, fun i x hx => ?_⟩
  have hc := h3 i x hx
  have hne : g ≠ X := fun e => by
    subst e
    simp only [World.cell?, hX] at hc
    generalize off + i = q at hc
    match q, hc with
    | 0, hc => simp at hc
    | 1, hc => simp at hc
    | 2, hc => simp at hc
    | q + 3, hc => simp at hc
  have : (w.setRow X C).heap[g]? = w.heap[g]? := setRow_other _ _ _ _ hne
  simp only [World.cell?, this] at hc ⊢
  exact hc
structure RT (w : World) (X : Nat) (vl : Value) (L : List ByteArray) (R : Bk × Nat × Int) (k : Nat) (b : Bk) (x y z : Value) (wr : World) : Prop where
  below : Below w.heap.size w wr
  r : wr.heap[w.heap.size]? = some (.cells #[.slice none 0 0, .slice none 0 0, .slice none 0 0] 30 (0, 0))
  bk : wr.heap[X]? = some (.cells #[x, y, z] 30 (0, 0))
  lt : w.heap.size < X
  new : BookNew w.heap.size wr x y z b.1 b.2.1 b.2.2
  str : StrsAt wr vl L
  gd : Gd b
  par : R = parseL rdS b k (L.drop k)
theorem RT.call {w wr wr' : World} {X : Nat} {vl : Value} {L : List ByteArray} {R : Bk × Nat × Int} {k : Nat} {b : Bk} {x y z : Value} (h : RT w X vl L R k b x y z wr) (hb : Below wr.heap.size wr wr') : RT w X vl L R k b x y z wr' :=
  ⟨below_step h.below hb, (hb.block _ (Array.getElem?_eq_some_iff.1 h.r).1).trans h.r, (hb.block _ (Array.getElem?_eq_some_iff.1 h.bk).1).trans h.bk, h.lt, h.new.keep hb, h.str.keep hb, h.gd, h.par⟩
theorem RT.put {w wr : World} {X : Nat} {vl : Value} {L : List ByteArray} {R : Bk × Nat × Int} {k : Nat} {b b' : Bk} {x y z x' y' z' : Value} (h : RT w X vl L R k b x y z wr) (hn : BookNew w.heap.size wr x' y' z' b'.1 b'.2.1 b'.2.2) (hg : Gd b') (hp : R = parseL rdS b' (k + 1) (L.drop (k + 1))) : RT w X vl L R (k + 1) b' x' y' z' (wr.setRow X #[x', y', z']) := by
  have hlt := h.lt
  obtain ⟨a1, a2, a3, a4, a5, a6, rfl, rfl, rfl⟩ := h.new.slices
  refine ⟨below_setRow h.below (by omega) _, ?_, setRow_heap _ _ _ _ _ _ h.bk, hlt, hn.box h.bk (grown_rowF _ X _), strs_box h.str h.bk, hg, hp⟩
  rw [setRow_other _ _ _ _ (by omega)]
  exact h.r
theorem cutN_sizes : ∀ (l cur x : List UInt8), x ∈ cutN cur l → x.length ≤ cur.length + l.length
  | [], cur, x, h => by simp [cutN] at h; subst h; simp
  | c :: r, cur, x, h => by
    rw [cutN] at h
    split at h
    · rcases List.mem_cons.1 h with rfl | h
      · simp
      · have := cutN_sizes r [] x h
        simp at this ⊢
        omega
    · have := cutN_sizes r (cur ++ [c]) x h
      simp at this ⊢
      omega
theorem lines_size (s : ByteArray) : ∀ l ∈ linesL s, l.size ≤ s.size := fun x hx => by
  have hx : x ∈ lineW s := by
    unfold linesL at hx
    split at hx
    · exact List.dropLast_subset _ hx
    · exact hx
  unfold lineW at hx
  obtain ⟨l, hl, rfl⟩ := List.mem_map.1 hx
  have := cutN_sizes _ _ _ hl
  rw [bytes_length, List.length_nil, Nat.zero_add] at this
  exact this
set_option maxRecDepth 100000 in
set_option maxHeartbeats 6400000 in
theorem readText_any (s : ByteArray) (w : World) (hs : s.size ≤ 1048576) (hsa : SaidIn w) (hma : MaxIn w) :
    Calls Tryz.prog 30 #[.string s] w fun e w' => Below w.heap.size w w' ∧
      (((parR s).2.2 ≠ 0 ∧ e = .returned (fail3 (parR s).2.1 (parR s).2.2)) ∨
       ((parR s).2.2 = 0 ∧ ∃ x y z, e = .returned (.tuple #[.agg #[x, y, z], .nilIface]) ∧ BookNew w.heap.size w' x y z (parR s).1.1 (parR s).1.2.1 (parR s).1.2.2)) := by
  have HSA := toHidC hsa
  have HMA := toHidC hma
  clear hsa hma
  have HTL : Hid (∀ wx : World, Below w.heap.size w wx → Calls Tryz.prog 50 #[.string s] wx fun e w' => e = .returned (.bool (longB s)) ∧ Below wx.heap.size wx w') := fun wx hx => tooLong_any s wx hs (HMA.out.keep hx)
  have HPR : Hid (parR s = bif longB s then (([], [], []), 0, 1) else parseL rdS ([], [], []) 0 (linesL s)) := rfl
  generalize parR s = R at *
  generalize longB s = lb at *
  go_enter Tryz.func30, Tryz.ntmps30
  go_wp2_with fail
  refine (HTL.out _ ((Below.refl _ _).alloc (Nat.le_refl _) _)).mono ?_
  rintro e w1 ⟨rfl, hb1⟩
  have H1 : Hid (Below w.heap.size w w1 ∧ w1.heap[w.heap.size]? = some (.cells #[.slice none 0 0, .slice none 0 0, .slice none 0 0] 30 (0, 0))) := ⟨below_step ((Below.refl _ _).alloc (Nat.le_refl _) _) hb1, (hb1.block _ (by simp)).trans (heap_newF w _)⟩
  clear hb1
  have g2 := H1.out.2
  cases lb
  · have HP : Hid (R = parseL rdS ([], [], []) 0 (linesL s)) := HPR.out
    clear HPR g2
    go_wp2_with fail
    have HA1 : Hid (Below w1.heap.size w1 (w1.alloc (.cells #[.slice none 0 0, .slice none 0 0, .slice none 0 0] 30))) := (Below.refl _ _).alloc (Nat.le_refl _) _
    refine (linesOf_any s _ hs (HMA.out.keep (below_step H1.out.1 HA1.out))).mono ?_
    rintro e w2 ⟨v, rfl, hv2, hb2⟩
    have HV2 := toHidC hv2
    obtain ⟨g, off, cap, rfl, hlc, hcm, -⟩ := hv2
    unfold maxLen at hcm
    have HX : Hid (w.heap.size < w1.heap.size) := (Array.getElem?_eq_some_iff.1 H1.out.2).1
    have HI0 : Hid (RT w w1.heap.size (.slice (some ⟨g, off, none⟩) (linesL s).length cap) (linesL s) R 0 ([], [], []) (.slice none 0 0) (.slice none 0 0) (.slice none 0 0) w2) := by
      have b1 := below_step H1.out.1 HA1.out
      exact ⟨below_step b1 hb2, (hb2.block _ (by rw [World.size_alloc]; have := HX.out; omega)).trans ((HA1.out.block _ HX.out).trans H1.out.2), (hb2.block _ (by rw [World.size_alloc]; omega)).trans (heap_newF w1 _), HX.out, BookNew.none _ _, HV2.out, Gd.none, HP.out⟩
    have HLS : Hid (∀ l ∈ linesL s, l.size ≤ s.size) := lines_size s
    clear hb2 HV2 HA1 H1 HP
    generalize linesL s = L at *
    generalize w1.heap.size = X at *
    go_wp2_with fail
    go_loopw [17] (fun i wr => ∃ (k : Nat) (b : Bk) (a1 a3 a5 : Option Addr) (a2 a4 a6 : Nat), k ≤ L.length ∧ i = .int .i64 k ∧ Hid (RT w X (.slice (some ⟨g, off, none⟩) L.length cap) L R k b (.slice a1 b.1.length a2) (.slice a3 b.2.1.length a4) (.slice a5 b.2.2.length a6) wr)) (fun i _ => L.length - (intOf i).toNat)
    case atStart => exact ⟨0, ([], [], []), none, none, none, 0, 0, 0, Nat.zero_le _, rfl, HI0.out⟩
    case round =>
      obtain ⟨k, b, a1, a3, a5, a2, a4, a6, hk, rfl, HI⟩ := hrel
      by_cases hlt : k < L.length
      · have c0 : wr.cell? ⟨g, off + k, none⟩ = some (.string (wat L k)) := HI.out.str.cell k hlt
        have hk0 : (0 : Int) ≤ (k : Int) := by omega
        have hk1 : (k : Int) < (L.length : Int) := by omega
        have hbk := HI.out.bk
        obtain ⟨d0, d1, d2⟩ : wr.cell? ⟨X, 0, none⟩ = some (.slice a1 b.1.length a2) ∧ wr.cell? ⟨X, 1, none⟩ = some (.slice a3 b.2.1.length a4) ∧ wr.cell? ⟨X, 2, none⟩ = some (.slice a5 b.2.2.length a6) := by simp [World.cell?, hbk]
        go_wp2_with fail
        have HDR : Hid (L.drop k = wat L k :: L.drop (k + 1)) := by
          show _ = _
          rw [List.drop_eq_getElem_cons hlt]
          simp [wat, hlt]
        have hsz : (wat L k).size ≤ 1048576 := Nat.le_trans (HLS.out _ (by rw [wat_idx hlt]; exact List.getElem_mem hlt)) hs
        refine (takeLine_any ((k : Int) + 1) (wat L k) _ _ _ b w.heap.size wr HI.out.new HI.out.below.size HI.out.gd hsz (HSA.out.keep HI.out.below) (HMA.out.keep HI.out.below)).mono ?_
        rintro e w3 ⟨hb3, ⟨hc, rfl⟩ | ⟨hc, x, y, z, rfl, hn⟩⟩
        · have HI3 : Hid (RT w X (.slice (some ⟨g, off, none⟩) L.length cap) L R k b (.slice a1 b.1.length a2) (.slice a3 b.2.1.length a4) (.slice a5 b.2.2.length a6) (w3.alloc (.cells #[.slice none 0 0, .slice none 0 0, .slice none 0 0] 30))) := (HI.out.call hb3).call ((Below.refl _ _).alloc (Nat.le_refl _) _)
          have HP : Hid (R = (([], [], []), k + 1, lineC rdS b (wat L k))) := HI.out.par.trans (by rw [HDR.out, parseL_bad hc])
          have HC := toHidC hc
          unfold fail3
          clear d0 d1 d2 c0 HI hb3 hc hbk
          generalize lineC rdS b (wat L k) = lc at *
          have g2 := HI3.out.r
          go_wp2_with (refine wpList_store_row rfl 30 _ _ rfl (w.heap.size) #[.slice none 0 0, .slice none 0 0, .slice none 0 0] rfl rfl 30 _ g2 (by kernel_rfl) rfl (by simp [Value.oneCell']) ?_)
          exact bodyPost_ret (v := fail3 ((k : Int) + 1) lc) (by simp [results, Tryz.results30, go_sem, cell_setRow_same _ _ _ _ _ _ _ g2, fail3]) rfl ⟨below_setRow HI3.out.below (Nat.le_refl _) _, .inl ⟨by rw [HP.out]; exact HC.out, by rw [HP.out]; rfl⟩⟩
        · have HI3 : Hid (RT w X (.slice (some ⟨g, off, none⟩) L.length cap) L R k b (.slice a1 b.1.length a2) (.slice a3 b.2.1.length a4) (.slice a5 b.2.2.length a6) w3) := HI.out.call hb3
          have HP : Hid (R = parseL rdS (lineB rdS b (wat L k)) (k + 1) (L.drop (k + 1))) := HI.out.par.trans (by rw [HDR.out, parseL_hit hc])
          have HGD : Hid (Gd (lineB rdS b (wat L k))) := HI.out.gd.line hsz (rdS_all _ hsz).2.2.2.2 hc
          have HN := toHidC hn
          obtain ⟨e1, e2, e3, e4, e5, e6, rfl, rfl, rfl⟩ := hn.slices
          have HA3 : Hid (Below w3.heap.size w3 (w3.alloc (.cells #[.slice e1 (lineB rdS b (wat L k)).1.length e2, .slice e3 (lineB rdS b (wat L k)).2.1.length e4, .slice e5 (lineB rdS b (wat L k)).2.2.length e6] 30))) := (Below.refl _ _).alloc (Nat.le_refl _) _
          have HI4 : Hid (RT w X (.slice (some ⟨g, off, none⟩) L.length cap) L R (k + 1) (lineB rdS b (wat L k)) (.slice e1 (lineB rdS b (wat L k)).1.length e2) (.slice e3 (lineB rdS b (wat L k)).2.1.length e4) (.slice e5 (lineB rdS b (wat L k)).2.2.length e6) ((w3.alloc (.cells #[.slice e1 (lineB rdS b (wat L k)).1.length e2, .slice e3 (lineB rdS b (wat L k)).2.1.length e4, .slice e5 (lineB rdS b (wat L k)).2.2.length e6] 30)).setRow X #[.slice e1 (lineB rdS b (wat L k)).1.length e2, .slice e3 (lineB rdS b (wat L k)).2.1.length e4, .slice e5 (lineB rdS b (wat L k)).2.2.length e6])) := (HI3.out.call HA3.out).put (HN.out.keep HA3.out) HGD.out HP.out
          have HBX : Hid ((w3.alloc (.cells #[.slice e1 (lineB rdS b (wat L k)).1.length e2, .slice e3 (lineB rdS b (wat L k)).2.1.length e4, .slice e5 (lineB rdS b (wat L k)).2.2.length e6] 30)).heap[X]? = some (.cells #[.slice a1 b.1.length a2, .slice a3 b.2.1.length a4, .slice a5 b.2.2.length a6] 30 (0, 0))) := (HI3.out.call HA3.out).bk
          clear d0 d1 d2 c0 HI hb3 hc hbk HN hn HP HGD
          have g3 := HBX.out
          go_wp2_with (refine wpList_store_row rfl 30 _ _ rfl X #[.slice e1 (lineB rdS b (wat L k)).1.length e2, .slice e3 (lineB rdS b (wat L k)).2.1.length e4, .slice e5 (lineB rdS b (wat L k)).2.2.length e6] rfl rfl 30 _ g3 (by kernel_rfl) rfl (by simp [Value.oneCell']) ?_)
          exact ⟨⟨k + 1, _, _, _, _, _, _, _, by omega, by go_num, HI4.out⟩, by simp [intOf]; omega⟩
      · have HP : Hid (R = (b, 0, 0)) := HI.out.par.trans (by rw [List.drop_of_length_le (by omega)]; rfl)
        have hbk := HI.out.bk
        have g2 := HI.out.r
        obtain ⟨d0, d1, d2⟩ : wr.cell? ⟨X, 0, none⟩ = some (.slice a1 b.1.length a2) ∧ wr.cell? ⟨X, 1, none⟩ = some (.slice a3 b.2.1.length a4) ∧ wr.cell? ⟨X, 2, none⟩ = some (.slice a5 b.2.2.length a6) := by simp [World.cell?, hbk]
        have hk1 : ¬ (k : Int) < (L.length : Int) := by omega
        go_wp2_with (refine wpList_store_row rfl 30 _ _ rfl (w.heap.size) #[.slice a1 b.1.length a2, .slice a3 b.2.1.length a4, .slice a5 b.2.2.length a6] rfl rfl 30 _ g2 (by kernel_rfl) rfl (by simp [Value.oneCell']) ?_)
        exact bodyPost_ret (v := .tuple #[.agg #[.slice a1 b.1.length a2, .slice a3 b.2.1.length a4, .slice a5 b.2.2.length a6], .nilIface]) (by simp [results, Tryz.results30, go_sem, cell_setRow_same _ _ _ _ _ _ _ g2]) rfl ⟨below_setRow HI.out.below (Nat.le_refl _) _, .inr ⟨by rw [HP.out], _, _, _, rfl, by rw [HP.out]; exact HI.out.new.box g2 (grown_rowF _ w.heap.size _)⟩⟩
  · have HP : Hid (R = (([], [], []), 0, 1)) := HPR.out
    clear HPR
    go_wp2_with (refine wpList_store_row rfl 30 _ _ rfl (w.heap.size) #[.slice none 0 0, .slice none 0 0, .slice none 0 0] rfl rfl 30 _ g2 (by kernel_rfl) rfl (by simp [Value.oneCell']) ?_)
    exact bodyPost_ret (v := fail3 0 1) (by simp [results, Tryz.results30, go_sem, cell_setRow_same _ _ _ _ _ _ _ g2, fail3]) rfl ⟨below_setRow H1.out.1 (Nat.le_refl _) _, .inl ⟨by rw [HP.out]; decide, by rw [HP.out]; rfl⟩⟩
set_option maxRecDepth 100000 in
set_option maxHeartbeats 1600000 in
theorem planParse_any (s : ByteArray) (w : World) (hs : s.size ≤ 1048576) (hsa : SaidIn w) (hma : MaxIn w) (her : ErrIn w) :
    Calls Tryz.prog 8 #[.string s] w fun e w' => ∃ x y z, e = .returned (.tuple #[.agg #[x, y, z], .agg #[.int .i64 (parR s).2.1, .int .i64 (parR s).2.2]]) ∧ BookNew w.heap.size w' x y z (parR s).1.1 (parR s).1.2.1 (parR s).1.2.2 ∧ Below w.heap.size w w' := by
  have HER := toHidC her
  have HRT : Hid (∀ wx : World, Below w.heap.size w wx → _) := fun wx hx => readText_any s wx hs (hsa.keep hx) (hma.keep hx)
  have HNO : Hid ((parR s).2.2 ≠ 0 → (parR s).1 = ([], [], [])) := parR_none
  have HZE : Hid ((parR s).2.2 = 0 → (parR s).2.1 = 0) := parR_zero
  clear hsa hma her
  generalize parR s = R at *
  obtain ⟨b, l, c⟩ := R
  dsimp only at *
  go_enter Tryz.func8, Tryz.ntmps8
  go_wp2_with fail
  have B0 : Below w.heap.size w ((w.alloc (.cells #[.slice none 0 0, .slice none 0 0, .slice none 0 0] 30)).alloc (.cells #[.int .i64 0, .int .i64 0] 32)) := ((Below.refl _ _).alloc (Nat.le_refl _) _).alloc (by simp) _
  refine (HRT.out _ B0).mono ?_
  rintro e w1 ⟨hb1, ⟨hc, rfl⟩ | ⟨hc, x, y, z, rfl, hn⟩⟩
  · have hno := HNO.out hc
    unfold fail3
    go_wp2_with fail
    have HA : Hid (Below w1.heap.size w1 (w1.alloc (.cells #[.slice none 0 0, .slice none 0 0, .slice none 0 0] 30))) := (Below.refl _ _).alloc (Nat.le_refl _) _
    have HZ : Hid (w.heap.size + 1 < w1.heap.size) := by have := hb1.size; simp only [World.size_alloc] at this; show _ < _; omega
    have HX : Hid ((w1.alloc (.cells #[.slice none 0 0, .slice none 0 0, .slice none 0 0] 30)).heap[w1.heap.size]? = some (.cells #[.slice none 0 0, .slice none 0 0, .slice none 0 0] 30 (0, 0))) := heap_newF w1 _
    have HR0 : Hid ((w1.alloc (.cells #[.slice none 0 0, .slice none 0 0, .slice none 0 0] 30)).heap[w.heap.size]? = some (.cells #[.slice none 0 0, .slice none 0 0, .slice none 0 0] 30 (0, 0))) := (HA.out.block _ (by have := HZ.out; omega)).trans ((hb1.block _ (by simp; omega)).trans (heap_old w _ _))
    have HR1 : Hid ((w1.alloc (.cells #[.slice none 0 0, .slice none 0 0, .slice none 0 0] 30)).heap[w.heap.size + 1]? = some (.cells #[.int .i64 0, .int .i64 0] 32 (0, 0))) := (HA.out.block _ HZ.out).trans ((hb1.block _ (by simp)).trans (by have h := heap_newF (w.alloc (.cells #[.slice none 0 0, .slice none 0 0, .slice none 0 0] 30)) (.cells #[.int .i64 0, .int .i64 0] 32); rw [World.size_alloc] at h; exact h))
    have HB : Hid (Below w.heap.size w (w1.alloc (.cells #[.slice none 0 0, .slice none 0 0, .slice none 0 0] 30))) := below_step (below_step B0 hb1) HA.out
    clear B0 HA hb1
    generalize (w1.alloc (.cells #[.slice none 0 0, .slice none 0 0, .slice none 0 0] 30)) = W at *
    generalize w1.heap.size = X at *
    have HSS : Hid (∀ w' : World, w'.heap[X]? = some (.cells #[.slice none 0 0, .slice none 0 0, .slice none 0 0] 30 (0, 0)) → (w'.cell? ⟨X, 0, none⟩ = some (.slice none 0 0) ∧ w'.cell? ⟨X, 1, none⟩ = some (.slice none 0 0) ∧ w'.cell? ⟨X, 2, none⟩ = some (.slice none 0 0))) := fun w' hx => ⟨by simp [World.cell?, hx], by simp [World.cell?, hx], by simp [World.cell?, hx]⟩
    refine wp_region_noPanic ?_
    refine wp_region_held_drew (S := fun w' => w'.cell? ⟨X, 0, none⟩ = some (.slice none 0 0) ∧ w'.cell? ⟨X, 1, none⟩ = some (.slice none 0 0) ∧ w'.cell? ⟨X, 2, none⟩ = some (.slice none 0 0)) (by kernel_rfl) ?_ (fun hHeld => ?_)
    · exact HSS.out _ HX.out
    have HX2 : Hid (W.drew.heap[X]? = some (.cells #[.slice none 0 0, .slice none 0 0, .slice none 0 0] 30 (0, 0))) := HX.out
    have HR02 : Hid (W.drew.heap[w.heap.size]? = some (.cells #[.slice none 0 0, .slice none 0 0, .slice none 0 0] 30 (0, 0))) := HR0.out
    have HR12 : Hid (W.drew.heap[w.heap.size + 1]? = some (.cells #[.int .i64 0, .int .i64 0] 32 (0, 0))) := HR1.out
    have HB2 : Hid (Below w.heap.size w W.drew) := HB.out.drew
    clear HX HR0 HR1 HB
    generalize W.drew = W0 at *
    refine tkH 0 ?_ rfl ?_ ?_; rotate_left
    · intro w hSw; (try dsimp only at hSw); go_simp; try with_reducible rfl
    simp only [Act.put, tkS]
    refine tkH 1 ?_ rfl ?_ ?_; rotate_left
    · intro w hSw; (try dsimp only at hSw); go_simp; try with_reducible rfl
    simp only [Act.put, tkS]
    clear hHeld
    refine rdH 2 rfl (fun K hK => ?_)
    go_simp
    refine (faultOf_hit (l : Int) c _ (HER.out.keep HB2.out)).mono ?_
    rintro e W1 ⟨rfl, hbb⟩
    have HX : Hid (W1.heap[X]? = some (.cells #[.slice none 0 0, .slice none 0 0, .slice none 0 0] 30 (0, 0))) := (hbb.block _ (Array.getElem?_eq_some_iff.1 HX2.out).1).trans HX2.out
    have HR0 : Hid (W1.heap[w.heap.size]? = some (.cells #[.slice none 0 0, .slice none 0 0, .slice none 0 0] 30 (0, 0))) := (hbb.block _ (Array.getElem?_eq_some_iff.1 HR02.out).1).trans HR02.out
    have HR1 : Hid (W1.heap[w.heap.size + 1]? = some (.cells #[.int .i64 0, .int .i64 0] 32 (0, 0))) := (hbb.block _ (Array.getElem?_eq_some_iff.1 HR12.out).1).trans HR12.out
    have HB : Hid (Below w.heap.size w W1) := below_step HB2.out hbb
    refine hK.out _ _ (HSS.out _ HX.out) (fun _ => ?_)
    clear hK K hbb HX2 HR02 HR12 HB2
    have HXL : Hid (w.heap.size + 1 < X) := HZ.out
    refine rdH 3 rfl (fun K hK => ?_)
    refine step_store_rowC rfl 30 _ _ rfl (w.heap.size) #[.slice none 0 0, .slice none 0 0, .slice none 0 0] rfl rfl 30 _ HR0.out (by kernel_rfl) rfl (by simp [Value.oneCell']) ?_
    have HX2 : Hid ((W1.setRow w.heap.size #[.slice none 0 0, .slice none 0 0, .slice none 0 0]).heap[X]? = some (.cells #[.slice none 0 0, .slice none 0 0, .slice none 0 0] 30 (0, 0))) := (setRow_other _ _ _ _ (by have := HXL.out; omega)).trans HX.out
    have HR02 : Hid ((W1.setRow w.heap.size #[.slice none 0 0, .slice none 0 0, .slice none 0 0]).heap[w.heap.size]? = some (.cells #[.slice none 0 0, .slice none 0 0, .slice none 0 0] 30 (0, 0))) := setRow_heap _ _ _ _ _ _ HR0.out
    have HR12 : Hid ((W1.setRow w.heap.size #[.slice none 0 0, .slice none 0 0, .slice none 0 0]).heap[w.heap.size + 1]? = some (.cells #[.int .i64 0, .int .i64 0] 32 (0, 0))) := (setRow_other _ _ _ _ (by omega)).trans HR1.out
    have HB2 : Hid (Below w.heap.size w (W1.setRow w.heap.size #[.slice none 0 0, .slice none 0 0, .slice none 0 0])) := below_setRow HB.out (Nat.le_refl _) _
    refine hK.out _ _ (HSS.out _ HX2.out) (fun _ => ?_)
    clear hK K HX HR0 HR1 HB
    generalize (W1.setRow w.heap.size #[.slice none 0 0, .slice none 0 0, .slice none 0 0]) = W2 at *
    refine rdH 4 rfl (fun K hK => ?_)
    refine step_store_rowC rfl 32 _ _ rfl (w.heap.size + 1) #[.int .i64 l, .int .i64 c] rfl rfl 32 _ HR12.out (by kernel_rfl) rfl (by simp [Value.oneCell']) ?_
    have HX : Hid ((W2.setRow (w.heap.size + 1) #[.int .i64 l, .int .i64 c]).heap[X]? = some (.cells #[.slice none 0 0, .slice none 0 0, .slice none 0 0] 30 (0, 0))) := (setRow_other _ _ _ _ (by have := HXL.out; omega)).trans HX2.out
    have HR0 : Hid ((W2.setRow (w.heap.size + 1) #[.int .i64 l, .int .i64 c]).heap[w.heap.size]? = some (.cells #[.slice none 0 0, .slice none 0 0, .slice none 0 0] 30 (0, 0))) := (setRow_other _ _ _ _ (by omega)).trans HR02.out
    have HR1 : Hid ((W2.setRow (w.heap.size + 1) #[.int .i64 l, .int .i64 c]).heap[w.heap.size + 1]? = some (.cells #[.int .i64 l, .int .i64 c] 32 (0, 0))) := setRow_heap _ _ _ _ _ _ HR12.out
    have HB : Hid (Below w.heap.size w (W2.setRow (w.heap.size + 1) #[.int .i64 l, .int .i64 c])) := below_setRow HB2.out (by omega) _
    refine hK.out _ _ (HSS.out _ HX.out) (fun _ => ?_)
    clear hK K HX2 HR02 HR12 HB2
    generalize (W2.setRow (w.heap.size + 1) #[.int .i64 l, .int .i64 c]) = W3 at *
    refine wpAnyH_done (by kernel_rfl) ?_ _
    refine NoPanic.normal ?_
    have r0 : W3.cell? ⟨w.heap.size, 0, none⟩ = some (.slice none 0 0) := by simp [World.cell?, HR0.out]
    have r1 : W3.cell? ⟨w.heap.size, 1, none⟩ = some (.slice none 0 0) := by simp [World.cell?, HR0.out]
    have r2 : W3.cell? ⟨w.heap.size, 2, none⟩ = some (.slice none 0 0) := by simp [World.cell?, HR0.out]
    have q0 : W3.cell? ⟨w.heap.size + 1, 0, none⟩ = some (.int .i64 l) := by simp [World.cell?, HR1.out]
    have q1 : W3.cell? ⟨w.heap.size + 1, 1, none⟩ = some (.int .i64 c) := by simp [World.cell?, HR1.out]
    go_wp2_with fail
    exact bodyPost_ret (v := .tuple #[.agg #[.slice none 0 0, .slice none 0 0, .slice none 0 0], .agg #[.int .i64 l, .int .i64 c]]) (by simp [results, Tryz.results8, go_sem, r0, r1, r2, q0, q1]) rfl ⟨_, _, _, rfl, by rw [hno]; exact BookNew.none _ _, HB.out⟩
  · have hze := HZE.out hc
    subst hze
    subst hc
    have hn2 := hn.mono (lo' := w.heap.size + 2) (by simp)
    obtain ⟨e1, e2, e3, e4, e5, e6, rfl, rfl, rfl⟩ := hn.slices
    have HN := toHidC (hn2.keep ((Below.refl _ _).alloc (Nat.le_refl _) (.cells #[.slice e1 b.1.length e2, .slice e3 b.2.1.length e4, .slice e5 b.2.2.length e6] 30)))
    clear hn hn2
    go_wp2_with fail
    have HA : Hid (Below w1.heap.size w1 (w1.alloc (.cells #[.slice e1 b.1.length e2, .slice e3 b.2.1.length e4, .slice e5 b.2.2.length e6] 30))) := (Below.refl _ _).alloc (Nat.le_refl _) _
    have HZ : Hid (w.heap.size + 1 < w1.heap.size) := by have := hb1.size; simp only [World.size_alloc] at this; show _ < _; omega
    have HX : Hid ((w1.alloc (.cells #[.slice e1 b.1.length e2, .slice e3 b.2.1.length e4, .slice e5 b.2.2.length e6] 30)).heap[w1.heap.size]? = some (.cells #[.slice e1 b.1.length e2, .slice e3 b.2.1.length e4, .slice e5 b.2.2.length e6] 30 (0, 0))) := heap_newF w1 _
    have HR0 : Hid ((w1.alloc (.cells #[.slice e1 b.1.length e2, .slice e3 b.2.1.length e4, .slice e5 b.2.2.length e6] 30)).heap[w.heap.size]? = some (.cells #[.slice none 0 0, .slice none 0 0, .slice none 0 0] 30 (0, 0))) := (HA.out.block _ (by have := HZ.out; omega)).trans ((hb1.block _ (by simp; omega)).trans (heap_old w _ _))
    have HR1 : Hid ((w1.alloc (.cells #[.slice e1 b.1.length e2, .slice e3 b.2.1.length e4, .slice e5 b.2.2.length e6] 30)).heap[w.heap.size + 1]? = some (.cells #[.int .i64 0, .int .i64 0] 32 (0, 0))) := (HA.out.block _ HZ.out).trans ((hb1.block _ (by simp)).trans (by have h := heap_newF (w.alloc (.cells #[.slice none 0 0, .slice none 0 0, .slice none 0 0] 30)) (.cells #[.int .i64 0, .int .i64 0] 32); rw [World.size_alloc] at h; exact h))
    have HB : Hid (Below w.heap.size w (w1.alloc (.cells #[.slice e1 b.1.length e2, .slice e3 b.2.1.length e4, .slice e5 b.2.2.length e6] 30))) := below_step (below_step B0 hb1) HA.out
    clear B0 HA hb1
    generalize (w1.alloc (.cells #[.slice e1 b.1.length e2, .slice e3 b.2.1.length e4, .slice e5 b.2.2.length e6] 30)) = W at *
    generalize w1.heap.size = X at *
    have HSS : Hid (∀ w' : World, w'.heap[X]? = some (.cells #[.slice e1 b.1.length e2, .slice e3 b.2.1.length e4, .slice e5 b.2.2.length e6] 30 (0, 0)) → (w'.cell? ⟨X, 0, none⟩ = some (.slice e1 b.1.length e2) ∧ w'.cell? ⟨X, 1, none⟩ = some (.slice e3 b.2.1.length e4) ∧ w'.cell? ⟨X, 2, none⟩ = some (.slice e5 b.2.2.length e6))) := fun w' hx => ⟨by simp [World.cell?, hx], by simp [World.cell?, hx], by simp [World.cell?, hx]⟩
    refine wp_region_noPanic ?_
    refine wp_region_held_drew (S := fun w' => w'.cell? ⟨X, 0, none⟩ = some (.slice e1 b.1.length e2) ∧ w'.cell? ⟨X, 1, none⟩ = some (.slice e3 b.2.1.length e4) ∧ w'.cell? ⟨X, 2, none⟩ = some (.slice e5 b.2.2.length e6)) (by kernel_rfl) ?_ (fun hHeld => ?_)
    · exact HSS.out _ HX.out
    have HX2 : Hid (W.drew.heap[X]? = some (.cells #[.slice e1 b.1.length e2, .slice e3 b.2.1.length e4, .slice e5 b.2.2.length e6] 30 (0, 0))) := HX.out
    have HR02 : Hid (W.drew.heap[w.heap.size]? = some (.cells #[.slice none 0 0, .slice none 0 0, .slice none 0 0] 30 (0, 0))) := HR0.out
    have HR12 : Hid (W.drew.heap[w.heap.size + 1]? = some (.cells #[.int .i64 0, .int .i64 0] 32 (0, 0))) := HR1.out
    have HB2 : Hid (Below w.heap.size w W.drew) := HB.out.drew
    have HN2 := toHidC (drewBN HN.out)
    clear HX HR0 HR1 HB HN
    generalize W.drew = W0 at *
    refine tkH 0 ?_ rfl ?_ ?_; rotate_left
    · intro w hSw; (try dsimp only at hSw); go_simp; try with_reducible rfl
    simp only [Act.put, tkS]
    refine tkH 1 ?_ rfl ?_ ?_; rotate_left
    · intro w hSw; (try dsimp only at hSw); go_simp; try with_reducible rfl
    simp only [Act.put, tkS]
    clear hHeld
    refine rdH 2 rfl (fun K hK => ?_)
    go_simp
    refine (faultOf_nil _).mono ?_
    rintro e W1 ⟨rfl, hbb⟩
    have HX : Hid (W1.heap[X]? = some (.cells #[.slice e1 b.1.length e2, .slice e3 b.2.1.length e4, .slice e5 b.2.2.length e6] 30 (0, 0))) := (hbb.block _ (Array.getElem?_eq_some_iff.1 HX2.out).1).trans HX2.out
    have HR0 : Hid (W1.heap[w.heap.size]? = some (.cells #[.slice none 0 0, .slice none 0 0, .slice none 0 0] 30 (0, 0))) := (hbb.block _ (Array.getElem?_eq_some_iff.1 HR02.out).1).trans HR02.out
    have HR1 : Hid (W1.heap[w.heap.size + 1]? = some (.cells #[.int .i64 0, .int .i64 0] 32 (0, 0))) := (hbb.block _ (Array.getElem?_eq_some_iff.1 HR12.out).1).trans HR12.out
    have HB : Hid (Below w.heap.size w W1) := below_step HB2.out hbb
    have HN := toHidC (HN2.out.keep hbb)
    refine hK.out _ _ (HSS.out _ HX.out) (fun _ => ?_)
    clear hK K hbb HX2 HR02 HR12 HB2 HN2
    have HXL : Hid (w.heap.size + 1 < X) := HZ.out
    refine rdH 3 rfl (fun K hK => ?_)
    refine step_store_rowC rfl 30 _ _ rfl (w.heap.size) #[.slice e1 b.1.length e2, .slice e3 b.2.1.length e4, .slice e5 b.2.2.length e6] rfl rfl 30 _ HR0.out (by kernel_rfl) rfl (by simp [Value.oneCell']) ?_
    have HX2 : Hid ((W1.setRow w.heap.size #[.slice e1 b.1.length e2, .slice e3 b.2.1.length e4, .slice e5 b.2.2.length e6]).heap[X]? = some (.cells #[.slice e1 b.1.length e2, .slice e3 b.2.1.length e4, .slice e5 b.2.2.length e6] 30 (0, 0))) := (setRow_other _ _ _ _ (by have := HXL.out; omega)).trans HX.out
    have HR02 : Hid ((W1.setRow w.heap.size #[.slice e1 b.1.length e2, .slice e3 b.2.1.length e4, .slice e5 b.2.2.length e6]).heap[w.heap.size]? = some (.cells #[.slice e1 b.1.length e2, .slice e3 b.2.1.length e4, .slice e5 b.2.2.length e6] 30 (0, 0))) := setRow_heap _ _ _ _ _ _ HR0.out
    have HR12 : Hid ((W1.setRow w.heap.size #[.slice e1 b.1.length e2, .slice e3 b.2.1.length e4, .slice e5 b.2.2.length e6]).heap[w.heap.size + 1]? = some (.cells #[.int .i64 0, .int .i64 0] 32 (0, 0))) := (setRow_other _ _ _ _ (by omega)).trans HR1.out
    have HB2 : Hid (Below w.heap.size w (W1.setRow w.heap.size #[.slice e1 b.1.length e2, .slice e3 b.2.1.length e4, .slice e5 b.2.2.length e6])) := below_setRow HB.out (Nat.le_refl _) _
    have HN2 := toHidC (HN.out.box HR0.out (grown_rowF W1 w.heap.size #[.slice e1 b.1.length e2, .slice e3 b.2.1.length e4, .slice e5 b.2.2.length e6]))
    refine hK.out _ _ (HSS.out _ HX2.out) (fun _ => ?_)
    clear hK K HX HR0 HR1 HB HN
    generalize (W1.setRow w.heap.size #[.slice e1 b.1.length e2, .slice e3 b.2.1.length e4, .slice e5 b.2.2.length e6]) = W2 at *
    refine rdH 4 rfl (fun K hK => ?_)
    refine step_store_rowC rfl 32 _ _ rfl (w.heap.size + 1) #[.int .i64 ((0 : Nat) : Int), .int .i64 0] rfl rfl 32 _ HR12.out (by kernel_rfl) rfl (by simp [Value.oneCell']) ?_
    have HX : Hid ((W2.setRow (w.heap.size + 1) #[.int .i64 ((0 : Nat) : Int), .int .i64 0]).heap[X]? = some (.cells #[.slice e1 b.1.length e2, .slice e3 b.2.1.length e4, .slice e5 b.2.2.length e6] 30 (0, 0))) := (setRow_other _ _ _ _ (by have := HXL.out; omega)).trans HX2.out
    have HR0 : Hid ((W2.setRow (w.heap.size + 1) #[.int .i64 ((0 : Nat) : Int), .int .i64 0]).heap[w.heap.size]? = some (.cells #[.slice e1 b.1.length e2, .slice e3 b.2.1.length e4, .slice e5 b.2.2.length e6] 30 (0, 0))) := (setRow_other _ _ _ _ (by omega)).trans HR02.out
    have HR1 : Hid ((W2.setRow (w.heap.size + 1) #[.int .i64 ((0 : Nat) : Int), .int .i64 0]).heap[w.heap.size + 1]? = some (.cells #[.int .i64 ((0 : Nat) : Int), .int .i64 0] 32 (0, 0))) := setRow_heap _ _ _ _ _ _ HR12.out
    have HB : Hid (Below w.heap.size w (W2.setRow (w.heap.size + 1) #[.int .i64 ((0 : Nat) : Int), .int .i64 0])) := below_setRow HB2.out (by omega) _
    have HN : Hid (BookNew w.heap.size (W2.setRow (w.heap.size + 1) #[.int .i64 ((0 : Nat) : Int), .int .i64 0]) _ _ _ b.1 b.2.1 b.2.2) := (HN2.out.far (grown_rowF W2 (w.heap.size + 1) #[.int .i64 ((0 : Nat) : Int), .int .i64 0]) (by omega)).mono (by omega)
    refine hK.out _ _ (HSS.out _ HX.out) (fun _ => ?_)
    clear hK K HX2 HR02 HR12 HB2
    generalize (W2.setRow (w.heap.size + 1) #[.int .i64 ((0 : Nat) : Int), .int .i64 0]) = W3 at *
    refine wpAnyH_done (by kernel_rfl) ?_ _
    refine NoPanic.normal ?_
    have r0 : W3.cell? ⟨w.heap.size, 0, none⟩ = some (.slice e1 b.1.length e2) := by simp [World.cell?, HR0.out]
    have r1 : W3.cell? ⟨w.heap.size, 1, none⟩ = some (.slice e3 b.2.1.length e4) := by simp [World.cell?, HR0.out]
    have r2 : W3.cell? ⟨w.heap.size, 2, none⟩ = some (.slice e5 b.2.2.length e6) := by simp [World.cell?, HR0.out]
    have q0 : W3.cell? ⟨w.heap.size + 1, 0, none⟩ = some (.int .i64 ((0 : Nat) : Int)) := by simp [World.cell?, HR1.out]
    have q1 : W3.cell? ⟨w.heap.size + 1, 1, none⟩ = some (.int .i64 0) := by simp [World.cell?, HR1.out]
    go_wp2_with fail
    exact bodyPost_ret (v := .tuple #[.agg #[.slice e1 b.1.length e2, .slice e3 b.2.1.length e4, .slice e5 b.2.2.length e6], .agg #[.int .i64 ((0 : Nat) : Int), .int .i64 0]]) (by simp [results, Tryz.results8, go_sem, r0, r1, r2, q0, q1]) rfl ⟨_, _, _, rfl, HN.out, HB.out⟩
end Go.Proofs.YtcmgddnckohdaaaGreatDoor.Tx
