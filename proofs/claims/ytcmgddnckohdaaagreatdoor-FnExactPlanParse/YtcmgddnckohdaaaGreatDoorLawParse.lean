import Derived.Test.YtcmgddnckohdaaaGreatDoorLs2
import Derived.Test.YtcmgddnckohdaaaGreatDoorRx1
set_option linter.unusedSimpArgs false
set_option linter.unusedVariables false
namespace Go.Proofs.YtcmgddnckohdaaaGreatDoor.Tx
open Go.RowKit Go.Proofs.YtcmgddnckohdaaaGreatDoor Go.Proofs.YtcmgddnckohdaaaGreatDoor.Sd
structure RS (w : World) (X : Nat) (vl : Value) (L : List ByteArray) (R : Bk × Nat × Int) (k : Nat) (b : Bk) (x y z : Value) (wr : World) : Prop where
 below : Below w.heap.size w wr
 r : wr.heap[w.heap.size]? = some (.cells #[.slice none 0 0, .slice none 0 0, .slice none 0 0] 30 (0, 0))
 f : wr.heap[w.heap.size + 1]? = some (.cells #[.int .i64 0, .int .i64 0] 32 (0, 0))
 bk : wr.heap[X]? = some (.cells #[x, y, z] 30 (0, 0))
 lt : w.heap.size + 1 < X
 at' : BookAt wr x y z b.1 b.2.1 b.2.2
 str : StrsAt wr vl L
 gd : Gd b
 par : R = parseL rdS b k (L.drop k)
theorem RS.call {w wr wr' : World} {X : Nat} {vl : Value} {L : List ByteArray} {R : Bk × Nat × Int} {k : Nat} {b : Bk} {x y z : Value} (h : RS w X vl L R k b x y z wr) (hb : Below wr.heap.size wr wr') : RS w X vl L R k b x y z wr' :=
 ⟨below_step h.below hb, (hb.block _ (Array.getElem?_eq_some_iff.1 h.r).1).trans h.r, (hb.block _ (Array.getElem?_eq_some_iff.1 h.f).1).trans h.f, (hb.block _ (Array.getElem?_eq_some_iff.1 h.bk).1).trans h.bk, h.lt, h.at'.keep hb, h.str.keep hb, h.gd, h.par⟩
theorem BookAt.shapes {w : World} {vk vp ve : Value} {ks ps : List Tri} {es : List Ent} (h : BookAt w vk vp ve ks ps es) : ∃ a1 c1 a2 c2 a3 c3, vk = .slice a1 ks.length c1 ∧ vp = .slice a2 ps.length c2 ∧ ve = .slice a3 es.length c3 := by
 obtain ⟨⟨a1, c1, h1, -⟩, ⟨a2, c2, h2, -⟩, ⟨a3, c3, h3, -⟩⟩ := h
 exact ⟨a1, c1, a2, c2, a3, c3, h1, h2, h3⟩
theorem RS.put {w wr : World} {X : Nat} {vl : Value} {L : List ByteArray} {R : Bk × Nat × Int} {k : Nat} {b b' : Bk} {x y z x' y' z' : Value} (h : RS w X vl L R k b x y z wr) (hn : BookAt wr x' y' z' b'.1 b'.2.1 b'.2.2) (hg : Gd b') (hp : R = parseL rdS b' (k + 1) (L.drop (k + 1))) : RS w X vl L R (k + 1) b' x' y' z' (wr.setRow X #[x', y', z']) := by
 have hlt := h.lt
 obtain ⟨a1, a2, a3, a4, a5, a6, rfl, rfl, rfl⟩ := BookAt.shapes h.at'
 refine ⟨below_setRow h.below (by omega) _, ?_, ?_, setRow_heap _ _ _ _ _ _ h.bk, hlt, BookAt_row3 hn h.bk _, strs_box h.str h.bk, hg, hp⟩
 ·rw [setRow_other _ _ _ _ (by omega)]
  exact h.r
 ·rw [setRow_other _ _ _ _ (by omega)]
  exact h.f
theorem bookAt_none (w : World) : BookAt w (.slice none 0 0) (.slice none 0 0) (.slice none 0 0) [] [] [] := (BookNew.none w.heap.size w).at
structure R2 (w : World) (w1 : World) : Prop where
 below : Below w.heap.size w w1
 r : w1.heap[w.heap.size]? = some (.cells #[.slice none 0 0, .slice none 0 0, .slice none 0 0] 30 (0, 0))
 f : w1.heap[w.heap.size + 1]? = some (.cells #[.int .i64 0, .int .i64 0] 32 (0, 0))
set_option maxRecDepth 100000 in
set_option maxHeartbeats 6400000 in
theorem specParse_any (s : ByteArray) (w : World) (hs : s.size ≤ 1048576) :
  Calls Tryz.prog 9 #[.string s] w fun e w' => ∃ x y z, e = .returned (.tuple #[.agg #[x, y, z], .agg #[.int .i64 (parR s).2.1, .int .i64 (parR s).2.2]]) ∧ BookAt w' x y z (parR s).1.1 (parR s).1.2.1 (parR s).1.2.2 ∧ Below w.heap.size w w' := by
 have HPR : Hid (parR s = bif longB s then (([], [], []), 0, 1) else parseL rdS ([], [], []) 0 (linesL s)) := rfl
 have HLB : Hid (longB s = (decide ((10000 : Int) < (s.size : Int)) || decide ((200 : Int) < ((linesL s).length : Int)))) := rfl
 have HLS : Hid (∀ l ∈ linesL s, l.size ≤ s.size) := lines_size s
 have HLN := toHidC (fun wx : World => l5Lines_any s wx hs)
 generalize parR s = R at *
 generalize longB s = lb at *
 generalize linesL s = L at *
 go_enter Tryz.func9, Tryz.ntmps9
 go_wp2_with fail
 refine (HLN.out _).mono ?_
 rintro e w1 ⟨v, rfl, hv1, hb1⟩
 have HV := toHidC hv1
 obtain ⟨g, off, cap, rfl, hlc, hcm, -⟩ := hv1
 unfold maxLen at hcm
 have H1 : Hid (R2 w w1) := by
  refine ⟨below_step (((Below.refl _ _).alloc (Nat.le_refl _) _).alloc (by simp) _) hb1, (hb1.block _ (by simp; omega)).trans (heap_old w _ _), (hb1.block _ (by simp)).trans ?_⟩
  have h := heap_newF (w.alloc (.cells #[.slice none 0 0, .slice none 0 0, .slice none 0 0] 30)) (.cells #[.int .i64 0, .int .i64 0] 32)
  rw [World.size_alloc] at h
  exact h
 clear hb1
 by_cases h1 : (10000 : Int) < (s.size : Int)
 ·have HP : Hid (R = (([], [], []), 0, 1)) := by
   have h : lb = true := by rw [HLB.out, decide_eq_true h1]; rfl
   rw [h] at HPR
   exact HPR.out
  have g2 := H1.out.r
  have g3 : (w1.setRow w.heap.size #[.slice none 0 0, .slice none 0 0, .slice none 0 0]).heap[w.heap.size + 1]? = some (.cells #[.int .i64 0, .int .i64 0] 32 (0, 0)) := (setRow_other _ _ _ _ (by omega)).trans H1.out.f
  go_wp2_with (first | (refine wpList_store_row rfl 30 _ _ rfl (w.heap.size) #[.slice none 0 0, .slice none 0 0, .slice none 0 0] rfl rfl 30 _ g2 (by kernel_rfl) rfl (by simp [Value.oneCell']) ?_) | (refine wpList_store_row rfl 32 _ _ rfl (w.heap.size + 1) #[.int .i64 0, .int .i64 1] rfl rfl 32 _ g3 (by kernel_rfl) rfl (by simp [Value.oneCell']) ?_))
  have r0 : (w1.setRow w.heap.size #[.slice none 0 0, .slice none 0 0, .slice none 0 0]).heap[w.heap.size]? = some (.cells #[.slice none 0 0, .slice none 0 0, .slice none 0 0] 30 (0, 0)) := setRow_heap _ _ _ _ _ _ g2
  have r1 : ((w1.setRow w.heap.size #[.slice none 0 0, .slice none 0 0, .slice none 0 0]).setRow (w.heap.size + 1) #[.int .i64 0, .int .i64 1]).heap[w.heap.size]? = some (.cells #[.slice none 0 0, .slice none 0 0, .slice none 0 0] 30 (0, 0)) := (setRow_other _ _ _ _ (by omega)).trans r0
  have r2 : ((w1.setRow w.heap.size #[.slice none 0 0, .slice none 0 0, .slice none 0 0]).setRow (w.heap.size + 1) #[.int .i64 0, .int .i64 1]).heap[w.heap.size + 1]? = some (.cells #[.int .i64 0, .int .i64 1] 32 (0, 0)) := setRow_heap _ _ _ _ _ _ g3
  exact bodyPost_ret (v := .tuple #[.agg #[.slice none 0 0, .slice none 0 0, .slice none 0 0], .agg #[.int .i64 0, .int .i64 1]]) (by simp [results, Tryz.results9, go_sem, World.cell?, r1, r2]) rfl ⟨_, _, _, by rw [HP.out]; rfl, by rw [HP.out]; exact bookAt_none _, below_setRow (below_setRow H1.out.below (Nat.le_refl _) _) (by omega) _⟩
 ·by_cases h2 : (200 : Int) < (L.length : Int)
  ·have HP : Hid (R = (([], [], []), 0, 1)) := by
    have h : lb = true := by rw [HLB.out, decide_eq_true h2, Bool.or_true]
    rw [h] at HPR
    exact HPR.out
   have g2 := H1.out.r
   have g3 : (w1.setRow w.heap.size #[.slice none 0 0, .slice none 0 0, .slice none 0 0]).heap[w.heap.size + 1]? = some (.cells #[.int .i64 0, .int .i64 0] 32 (0, 0)) := (setRow_other _ _ _ _ (by omega)).trans H1.out.f
   go_wp2_with (first | (refine wpList_store_row rfl 30 _ _ rfl (w.heap.size) #[.slice none 0 0, .slice none 0 0, .slice none 0 0] rfl rfl 30 _ g2 (by kernel_rfl) rfl (by simp [Value.oneCell']) ?_) | (refine wpList_store_row rfl 32 _ _ rfl (w.heap.size + 1) #[.int .i64 0, .int .i64 1] rfl rfl 32 _ g3 (by kernel_rfl) rfl (by simp [Value.oneCell']) ?_))
   have r0 : (w1.setRow w.heap.size #[.slice none 0 0, .slice none 0 0, .slice none 0 0]).heap[w.heap.size]? = some (.cells #[.slice none 0 0, .slice none 0 0, .slice none 0 0] 30 (0, 0)) := setRow_heap _ _ _ _ _ _ g2
   have r1 : ((w1.setRow w.heap.size #[.slice none 0 0, .slice none 0 0, .slice none 0 0]).setRow (w.heap.size + 1) #[.int .i64 0, .int .i64 1]).heap[w.heap.size]? = some (.cells #[.slice none 0 0, .slice none 0 0, .slice none 0 0] 30 (0, 0)) := (setRow_other _ _ _ _ (by omega)).trans r0
   have r2 : ((w1.setRow w.heap.size #[.slice none 0 0, .slice none 0 0, .slice none 0 0]).setRow (w.heap.size + 1) #[.int .i64 0, .int .i64 1]).heap[w.heap.size + 1]? = some (.cells #[.int .i64 0, .int .i64 1] 32 (0, 0)) := setRow_heap _ _ _ _ _ _ g3
   exact bodyPost_ret (v := .tuple #[.agg #[.slice none 0 0, .slice none 0 0, .slice none 0 0], .agg #[.int .i64 0, .int .i64 1]]) (by simp [results, Tryz.results9, go_sem, World.cell?, r1, r2]) rfl ⟨_, _, _, by rw [HP.out]; rfl, by rw [HP.out]; exact bookAt_none _, below_setRow (below_setRow H1.out.below (Nat.le_refl _) _) (by omega) _⟩
  ·have HP : Hid (R = parseL rdS ([], [], []) 0 L) := by
    have h : lb = false := by rw [HLB.out, decide_eq_false h1, decide_eq_false h2]; rfl
    rw [h] at HPR
    exact HPR.out
   have HA1 : Hid (Below w1.heap.size w1 (w1.alloc (.cells #[.slice none 0 0, .slice none 0 0, .slice none 0 0] 30))) := (Below.refl _ _).alloc (Nat.le_refl _) _
   have HX : Hid (w.heap.size + 1 < w1.heap.size) := (Array.getElem?_eq_some_iff.1 H1.out.f).1
   have HI0 : Hid (RS w w1.heap.size (.slice (some ⟨g, off, none⟩) L.length cap) L R 0 ([], [], []) (.slice none 0 0) (.slice none 0 0) (.slice none 0 0) (w1.alloc (.cells #[.slice none 0 0, .slice none 0 0, .slice none 0 0] 30))) := ⟨below_step H1.out.below HA1.out, (HA1.out.block _ (by have := HX.out; omega)).trans H1.out.r, (HA1.out.block _ HX.out).trans H1.out.f, heap_newF w1 _, HX.out, bookAt_none _, HV.out.keep HA1.out, Gd.none, HP.out⟩
   go_wp2_with fail
   clear HV HA1 H1 HP
   generalize w1.alloc (.cells #[.slice none 0 0, .slice none 0 0, .slice none 0 0] 30) = w2 at *
   generalize w1.heap.size = X at *
   go_loopw [6] (fun i wr => ∃ (k : Nat) (b : Bk) (a1 a3 a5 : Option Addr) (a2 a4 a6 : Nat), k ≤ L.length ∧ i = .int .i64 k ∧ Hid (RS w X (.slice (some ⟨g, off, none⟩) L.length cap) L R k b (.slice a1 b.1.length a2) (.slice a3 b.2.1.length a4) (.slice a5 b.2.2.length a6) wr)) (fun i _ => L.length - (intOf i).toNat)
   case atStart => exact ⟨0, ([], [], []), none, none, none, 0, 0, 0, Nat.zero_le _, rfl, HI0.out⟩
   case round =>
    obtain ⟨k, b, a1, a3, a5, a2, a4, a6, hk, rfl, HI⟩ := hrel
    have hbk := HI.out.bk
    obtain ⟨d0, d1, d2⟩ : wr.cell? ⟨X, 0, none⟩ = some (.slice a1 b.1.length a2) ∧ wr.cell? ⟨X, 1, none⟩ = some (.slice a3 b.2.1.length a4) ∧ wr.cell? ⟨X, 2, none⟩ = some (.slice a5 b.2.2.length a6) := by simp [World.cell?, hbk]
    by_cases hlt : k < L.length
    ·have c0 : wr.cell? ⟨g, off + k, none⟩ = some (.string (wat L k)) := HI.out.str.cellS k hlt
     have hk0 : (0 : Int) ≤ (k : Int) := by omega
     have hk1 : (k : Int) < (L.length : Int) := by omega
     have HDR : Hid (L.drop k = wat L k :: L.drop (k + 1)) := by
      show _ = _
      rw [List.drop_eq_getElem_cons hlt]
      simp [wat, hlt]
     have hsz : (wat L k).size ≤ 1048576 := Nat.le_trans (HLS.out _ (by rw [wat_idx hlt]; exact List.getElem_mem hlt)) hs
     have HLX : Hid (∀ wx : World, Below wr.heap.size wr wx → Calls Tryz.prog 33 #[.agg #[.slice a1 b.1.length a2, .slice a3 b.2.1.length a4, .slice a5 b.2.2.length a6], .string (wat L k)] wx fun e w' => ∃ (e1 e3 e5 : Option Addr) (n1 n2 n3 e2 e4 e6 : Nat), e = .returned (.tuple #[.agg #[.slice e1 n1 e2, .slice e3 n2 e4, .slice e5 n3 e6], .int .i64 (lineC rdS b (wat L k))]) ∧ (lineC rdS b (wat L k) = 0 → BookAt w' (.slice e1 n1 e2) (.slice e3 n2 e4) (.slice e5 n3 e6) (lineB rdS b (wat L k)).1 (lineB rdS b (wat L k)).2.1 (lineB rdS b (wat L k)).2.2) ∧ Below wx.heap.size wx w') := fun wx hx => by
      refine (l5Line_any (wat L k) _ _ _ b wx (HI.out.at'.keep hx) HI.out.gd hsz).mono ?_
      rintro e w3 ⟨hb3, ⟨hc, rfl⟩ | ⟨hc, x, y, z, rfl, hn⟩⟩
      ·exact ⟨_, _, _, _, _, _, _, _, _, rfl, fun h => absurd h hc, hb3⟩
      ·obtain ⟨e1, e2, e3, e4, e5, e6, rfl, rfl, rfl⟩ := BookAt.shapes hn
       exact ⟨_, _, _, _, _, _, _, _, _, by rw [hc], fun _ => hn, hb3⟩
     have HPB : Hid (lineC rdS b (wat L k) ≠ 0 → R = (([], [], []), k + 1, lineC rdS b (wat L k))) := fun hc => HI.out.par.trans (by rw [HDR.out, parseL_bad hc])
     have HPG : Hid (lineC rdS b (wat L k) = 0 → R = parseL rdS (lineB rdS b (wat L k)) (k + 1) (L.drop (k + 1)) ∧ Gd (lineB rdS b (wat L k))) := fun hc => ⟨HI.out.par.trans (by rw [HDR.out, parseL_hit hc]), HI.out.gd.line hsz (rdS_all _ hsz).2.2.2.2 hc⟩
     clear HDR hsz
     generalize lineC rdS b (wat L k) = lc at *
     generalize lineB rdS b (wat L k) = lb at *
     generalize wat L k = lw at *
     go_wp2_with fail
     go_cut [7, 8] (fun s7 s8 wc => ∃ (Y : Nat) (e1 e3 e5 : Option Addr) (n1 n2 n3 e2 e4 e6 : Nat), s7 = .pointer (some ⟨Y, 0, none⟩) ∧ s8 = .int .i64 lc ∧ Hid (Below wr.heap.size wr wc ∧ wc.heap[Y]? = some (.cells #[.slice e1 n1 e2, .slice e3 n2 e4, .slice e5 n3 e6] 30 (0, 0)) ∧ (lc = 0 → BookAt wc (.slice e1 n1 e2) (.slice e3 n2 e4) (.slice e5 n3 e6) lb.1 lb.2.1 lb.2.2)))
     case first =>
      have HSS : Hid (∀ w' : World, Below wr.heap.size wr w' → (w'.cell? ⟨X, 0, none⟩ = some (.slice a1 b.1.length a2) ∧ w'.cell? ⟨X, 1, none⟩ = some (.slice a3 b.2.1.length a4) ∧ w'.cell? ⟨X, 2, none⟩ = some (.slice a5 b.2.2.length a6) ∧ w'.cell? ⟨g, off + k, none⟩ = some (.string lw))) := fun w' hx => ⟨cell_keep hx (Nat.le_refl _) d0, cell_keep hx (Nat.le_refl _) d1, cell_keep hx (Nat.le_refl _) d2, cell_keep hx (Nat.le_refl _) c0⟩
      clear d0 d1 d2 c0 hbk
      refine wp_region_noPanic ?_
      refine wp_region_held_drew (S := fun w' => w'.cell? ⟨X, 0, none⟩ = some (.slice a1 b.1.length a2) ∧ w'.cell? ⟨X, 1, none⟩ = some (.slice a3 b.2.1.length a4) ∧ w'.cell? ⟨X, 2, none⟩ = some (.slice a5 b.2.2.length a6) ∧ w'.cell? ⟨g, off + k, none⟩ = some (.string lw)) (by kernel_rfl) ?_ (fun hHeld => ?_)
      ·exact HSS.out _ (Below.refl _ _).drew
      have HBW : Hid (Below wr.heap.size wr wr.drew) := (Below.refl _ _).drew
      generalize wr.drew = W0 at *
      refine tkH 0 ?_ rfl ?_ (tkH 1 ?_ rfl ?_ (tkH 2 ?_ rfl ?_ (tkH 3 ?_ rfl ?_ (tkH 4 ?_ rfl ?_ ?_))))
      iterate 5 (rotate_left; focus (intro w hSw; (try dsimp only at hSw); simp only [Act.put, tkS]; go_simp; try with_reducible rfl))
      simp only [Act.put, tkS]
      clear hHeld
      refine rdH2 5 9 rfl rfl (fun K hK => ?_) (fun K hK => ?_)
      focus
       go_simp
       refine (HLX.out _ HBW.out).mono ?_
       rintro e W1 ⟨e1, e3, e5, n1, n2, n3, e2, e4, e6, rfl, hn, hbb⟩
       have HB2 : Hid (Below wr.heap.size wr W1) := below_step HBW.out hbb
       have HN := toHidC hn
       have hHeld := HSS.out _ HB2.out
       refine hK.out _ _ hHeld (fun _ => ?_)
       clear hK K hbb HBW hn
       have HBW := HB2
       clear HB2
       refine tkH 6 ?_ rfl ?_ (tkH 7 ?_ rfl ?_ (tkH 8 ?_ rfl ?_ ?_))
       iterate 3 (rotate_left; focus (intro w hSw; (try dsimp only at hSw); simp only [Act.put, tkS]; go_simp; try with_reducible rfl))
       simp only [Act.put, tkS]
       clear hHeld
       refine rdH 9 rfl (fun K hK => ?_)
       go_simp
       have hbb : Below W1.heap.size W1 (W1.alloc (.cells #[.slice none 0 0, .slice none 0 0, .slice none 0 0] 30)) := (Below.refl _ _).alloc (Nat.le_refl _) _
       have HB2 : Hid (Below wr.heap.size wr (W1.alloc (.cells #[.slice none 0 0, .slice none 0 0, .slice none 0 0] 30))) := below_step HBW.out hbb
       have HY : Hid ((W1.alloc (.cells #[.slice none 0 0, .slice none 0 0, .slice none 0 0] 30)).heap[W1.heap.size]? = some (.cells #[.slice none 0 0, .slice none 0 0, .slice none 0 0] 30 (0, 0))) := heap_newF W1 _
       have HYL : Hid (wr.heap.size ≤ W1.heap.size) := HBW.out.size
       have HN2 : Hid (lc = 0 → BookAt (W1.alloc (.cells #[.slice none 0 0, .slice none 0 0, .slice none 0 0] 30)) (.slice e1 n1 e2) (.slice e3 n2 e4) (.slice e5 n3 e6) lb.1 lb.2.1 lb.2.2) := fun h => (HN.out h).keep hbb
       refine hK.out _ _ (HSS.out _ HB2.out) (fun _ => ?_)
       clear hK K hbb HBW HN
       have HBW := HB2
       have HN := HN2
       clear HN2
       clear HB2
       generalize (W1.alloc (.cells #[.slice none 0 0, .slice none 0 0, .slice none 0 0] 30)) = W2 at *
       generalize W1.heap.size = Y at *
      rotate_left
      focus
       go_simp
       have hbb : Below W0.heap.size W0 (W0.alloc (.cells #[.slice none 0 0, .slice none 0 0, .slice none 0 0] 30)) := (Below.refl _ _).alloc (Nat.le_refl _) _
       have HB2 : Hid (Below wr.heap.size wr (W0.alloc (.cells #[.slice none 0 0, .slice none 0 0, .slice none 0 0] 30))) := below_step HBW.out hbb
       have HY : Hid ((W0.alloc (.cells #[.slice none 0 0, .slice none 0 0, .slice none 0 0] 30)).heap[W0.heap.size]? = some (.cells #[.slice none 0 0, .slice none 0 0, .slice none 0 0] 30 (0, 0))) := heap_newF W0 _
       have HYL : Hid (wr.heap.size ≤ W0.heap.size) := HBW.out.size
       refine hK.out _ _ (HSS.out _ HB2.out) (fun _ => ?_)
       clear hK K hbb HBW
       have HBW := HB2
       clear HB2
       generalize (W0.alloc (.cells #[.slice none 0 0, .slice none 0 0, .slice none 0 0] 30)) = W1 at *
       generalize W0.heap.size = Y at *
       refine rdH 5 rfl (fun K hK => ?_)
       go_simp
       refine (HLX.out _ HBW.out).mono ?_
       rintro e W2 ⟨e1, e3, e5, n1, n2, n3, e2, e4, e6, rfl, hn, hbb⟩
       have HB2 : Hid (Below wr.heap.size wr W2) := below_step HBW.out hbb
       have HN := toHidC hn
       have HY2 : Hid (W2.heap[Y]? = some (.cells #[.slice none 0 0, .slice none 0 0, .slice none 0 0] 30 (0, 0))) := (hbb.block _ (Array.getElem?_eq_some_iff.1 HY.out).1).trans HY.out
       have hHeld := HSS.out _ HB2.out
       refine hK.out _ _ hHeld (fun _ => ?_)
       clear hK K hbb HBW hn HY
       have HBW := HB2
       have HY := HY2
       clear HY2
       clear HB2
       refine tkH 6 ?_ rfl ?_ (tkH 7 ?_ rfl ?_ (tkH 8 ?_ rfl ?_ ?_))
       iterate 3 (rotate_left; focus (intro w hSw; (try dsimp only at hSw); simp only [Act.put, tkS]; go_simp; try with_reducible rfl))
       simp only [Act.put, tkS]
       clear hHeld
      rotate_left
      all_goals
       refine rdH 10 rfl (fun K hK => ?_)
       refine step_store_rowC rfl 30 _ _ rfl Y #[.slice e1 n1 e2, .slice e3 n2 e4, .slice e5 n3 e6] rfl rfl 30 _ HY.out (by kernel_rfl) rfl (by simp [Value.oneCell']) ?_
       have HB2 : Hid (Below wr.heap.size wr (W2.setRow Y #[.slice e1 n1 e2, .slice e3 n2 e4, .slice e5 n3 e6])) := below_setRow HBW.out HYL.out _
       have HY2 : Hid ((W2.setRow Y #[.slice e1 n1 e2, .slice e3 n2 e4, .slice e5 n3 e6]).heap[Y]? = some (.cells #[.slice e1 n1 e2, .slice e3 n2 e4, .slice e5 n3 e6] 30 (0, 0))) := setRow_heap _ _ _ _ _ _ HY.out
       have HN2 : Hid (lc = 0 → BookAt (W2.setRow Y #[.slice e1 n1 e2, .slice e3 n2 e4, .slice e5 n3 e6]) (.slice e1 n1 e2) (.slice e3 n2 e4) (.slice e5 n3 e6) lb.1 lb.2.1 lb.2.2) := fun h => BookAt_row3 (HN.out h) HY.out _
       have hHeld := HSS.out _ HB2.out
       refine hK.out _ _ hHeld (fun _ => ?_)
       clear hK K
       refine tkH 11 ?_ rfl ?_ ?_; rotate_left
       ·intro w hSw; (try dsimp only at hSw); go_simp; try with_reducible rfl
       simp only [Act.put, tkS]
       refine wpAnyH_done (by kernel_rfl) ?_ _
       refine NoPanic.normal ?_
       go_wp2_with fail
       go_meet
       exact ⟨Y, _, _, _, _, _, _, _, _, _, rfl, rfl, HB2.out, HY2.out, HN2.out⟩
     case rest =>
      obtain ⟨Y, e1, e3, e5, n1, n2, n3, e2, e4, e6, rfl, rfl, HQ⟩ := hcut
      have HI3 : Hid (RS w X (.slice (some ⟨g, off, none⟩) L.length cap) L R k b (.slice a1 b.1.length a2) (.slice a3 b.2.1.length a4) (.slice a5 b.2.2.length a6) wc) := HI.out.call HQ.out.1
      have HYB := HQ.out.2.1
      obtain ⟨q0, q1, q2⟩ : wc.cell? ⟨Y, 0, none⟩ = some (.slice e1 n1 e2) ∧ wc.cell? ⟨Y, 1, none⟩ = some (.slice e3 n2 e4) ∧ wc.cell? ⟨Y, 2, none⟩ = some (.slice e5 n3 e6) := by simp [World.cell?, HYB]
      clear d0 d1 d2 c0 HI hbk HYB
      by_cases hc : lc = 0
      ·obtain ⟨hp, hgd⟩ := HPG.out hc
       have HN := toHidC (HQ.out.2.2 hc)
       have hcb : (lc == 0) = true := by simp [hc]
       have hcn : (lc != 0) = false := by simp [hc]
       have HI4 : Hid (RS w X (.slice (some ⟨g, off, none⟩) L.length cap) L R (k + 1) lb (.slice e1 n1 e2) (.slice e3 n2 e4) (.slice e5 n3 e6) (wc.setRow X #[.slice e1 n1 e2, .slice e3 n2 e4, .slice e5 n3 e6])) := HI3.out.put HN.out hgd hp
       have HBX := toHidC HI3.out.bk
       have HSH := toHidC (BookAt.shapes HN.out)
       clear hp hgd HPG HPB HLX HQ HI3
       have g3 := HBX.out
       go_wp2_with (refine wpList_store_row rfl 30 _ _ rfl X #[.slice e1 n1 e2, .slice e3 n2 e4, .slice e5 n3 e6] rfl rfl 30 _ g3 (by kernel_rfl) rfl (by simp [Value.oneCell']) ?_)
       obtain ⟨f1, f2, f3, f4, f5, f6, h1, h2, h3⟩ := HSH.out
       injection h1 with i1 i2 i3
       injection h2 with i4 i5 i6
       injection h3 with i7 i8 i9
       have HI5 := HI4.out
       rw [i2, i5, i8] at HI5
       exact ⟨⟨k + 1, lb, e1, e3, e5, e2, e4, e6, by omega, by go_num, by rw [i2, i5, i8]; exact HI5⟩, by simp [intOf]; omega⟩
      ·have HP := toHidC (HPB.out hc)
       have hcb : (lc == 0) = false := by simp [hc]
       have hcn : (lc != 0) = true := by simp [hc]
       have g2 := HI3.out.r
       have g3 : (wc.setRow w.heap.size #[.slice none 0 0, .slice none 0 0, .slice none 0 0]).heap[w.heap.size + 1]? = some (.cells #[.int .i64 0, .int .i64 0] 32 (0, 0)) := (setRow_other _ _ _ _ (by omega)).trans HI3.out.f
       go_wp2_with (first | (refine wpList_store_row rfl 30 _ _ rfl (w.heap.size) #[.slice none 0 0, .slice none 0 0, .slice none 0 0] rfl rfl 30 _ g2 (by kernel_rfl) rfl (by simp [Value.oneCell']) ?_) | (refine wpList_store_row rfl 32 _ _ rfl (w.heap.size + 1) #[.int .i64 ((k : Int) + 1), .int .i64 lc] rfl rfl 32 _ g3 (by kernel_rfl) rfl (by simp [Value.oneCell']) ?_))
       have r0 : (wc.setRow w.heap.size #[.slice none 0 0, .slice none 0 0, .slice none 0 0]).heap[w.heap.size]? = some (.cells #[.slice none 0 0, .slice none 0 0, .slice none 0 0] 30 (0, 0)) := setRow_heap _ _ _ _ _ _ g2
       have r1 : ((wc.setRow w.heap.size #[.slice none 0 0, .slice none 0 0, .slice none 0 0]).setRow (w.heap.size + 1) #[.int .i64 ((k : Int) + 1), .int .i64 lc]).heap[w.heap.size]? = some (.cells #[.slice none 0 0, .slice none 0 0, .slice none 0 0] 30 (0, 0)) := (setRow_other _ _ _ _ (by omega)).trans r0
       have r2 : ((wc.setRow w.heap.size #[.slice none 0 0, .slice none 0 0, .slice none 0 0]).setRow (w.heap.size + 1) #[.int .i64 ((k : Int) + 1), .int .i64 lc]).heap[w.heap.size + 1]? = some (.cells #[.int .i64 ((k : Int) + 1), .int .i64 lc] 32 (0, 0)) := setRow_heap _ _ _ _ _ _ g3
       exact bodyPost_ret (v := .tuple #[.agg #[.slice none 0 0, .slice none 0 0, .slice none 0 0], .agg #[.int .i64 ((k : Int) + 1), .int .i64 lc]]) (by simp [results, Tryz.results9, go_sem, World.cell?, r1, r2]) rfl ⟨_, _, _, by rw [HP.out]; rfl, by rw [HP.out]; exact bookAt_none _, below_setRow (below_setRow HI3.out.below (Nat.le_refl _) _) (by omega) _⟩
    ·have HP : Hid (R = (b, 0, 0)) := HI.out.par.trans (by rw [List.drop_of_length_le (by omega)]; rfl)
     have hk1 : ¬ (k : Int) < (L.length : Int) := by omega
     go_wp2_with fail
     refine (specL3Copy_any _ _ _ b.1 b.2.1 b.2.2 _ HI.out.at' HI.out.gd.sm.s.k HI.out.gd.sm.s.p HI.out.gd.sm.s.e HI.out.gd.sm.s.f).mono ?_
     rintro e w3 ⟨x, y, z, rfl, hn3, hb3⟩
     have HI3 : Hid (RS w X (.slice (some ⟨g, off, none⟩) L.length cap) L R k b (.slice a1 b.1.length a2) (.slice a3 b.2.1.length a4) (.slice a5 b.2.2.length a6) w3) := HI.out.call hb3
     have HN3 := toHidC hn3.at
     obtain ⟨e1, e2, e3, e4, e5, e6, rfl, rfl, rfl⟩ := hn3.slices
     clear d0 d1 d2 hbk hn3 hb3 HI
     have g2 := HI3.out.r
     have g3 : (w3.setRow w.heap.size #[.slice e1 b.1.length e2, .slice e3 b.2.1.length e4, .slice e5 b.2.2.length e6]).heap[w.heap.size + 1]? = some (.cells #[.int .i64 0, .int .i64 0] 32 (0, 0)) := (setRow_other _ _ _ _ (by omega)).trans HI3.out.f
     go_wp2_with (first | (refine wpList_store_row rfl 30 _ _ rfl (w.heap.size) #[.slice e1 b.1.length e2, .slice e3 b.2.1.length e4, .slice e5 b.2.2.length e6] rfl rfl 30 _ g2 (by kernel_rfl) rfl (by simp [Value.oneCell']) ?_) | (refine wpList_store_row rfl 32 _ _ rfl (w.heap.size + 1) #[.int .i64 0, .int .i64 0] rfl rfl 32 _ g3 (by kernel_rfl) rfl (by simp [Value.oneCell']) ?_))
     have r0 : (w3.setRow w.heap.size #[.slice e1 b.1.length e2, .slice e3 b.2.1.length e4, .slice e5 b.2.2.length e6]).heap[w.heap.size]? = some (.cells #[.slice e1 b.1.length e2, .slice e3 b.2.1.length e4, .slice e5 b.2.2.length e6] 30 (0, 0)) := setRow_heap _ _ _ _ _ _ g2
     have r1 : ((w3.setRow w.heap.size #[.slice e1 b.1.length e2, .slice e3 b.2.1.length e4, .slice e5 b.2.2.length e6]).setRow (w.heap.size + 1) #[.int .i64 0, .int .i64 0]).heap[w.heap.size]? = some (.cells #[.slice e1 b.1.length e2, .slice e3 b.2.1.length e4, .slice e5 b.2.2.length e6] 30 (0, 0)) := (setRow_other _ _ _ _ (by omega)).trans r0
     have r2 : ((w3.setRow w.heap.size #[.slice e1 b.1.length e2, .slice e3 b.2.1.length e4, .slice e5 b.2.2.length e6]).setRow (w.heap.size + 1) #[.int .i64 0, .int .i64 0]).heap[w.heap.size + 1]? = some (.cells #[.int .i64 0, .int .i64 0] 32 (0, 0)) := setRow_heap _ _ _ _ _ _ g3
     exact bodyPost_ret (v := .tuple #[.agg #[.slice e1 b.1.length e2, .slice e3 b.2.1.length e4, .slice e5 b.2.2.length e6], .agg #[.int .i64 0, .int .i64 0]]) (by simp [results, Tryz.results9, go_sem, World.cell?, r1, r2]) rfl ⟨_, _, _, by rw [HP.out]; rfl, by rw [HP.out]; exact BookAt_int2 (BookAt_row3 HN3.out g2 _) g3 _, below_setRow (below_setRow HI3.out.below (Nat.le_refl _) _) (by omega) _⟩
open Go.RowKit Go.Proofs.YtcmgddnckohdaaaGreatDoor Go.Proofs.YtcmgddnckohdaaaGreatDoor.Sd
theorem parR_gd (s : ByteArray) (hs : s.size ≤ 1048576) : Gd (parR s).1 := by
 unfold parR
 cases longB s
 ·exact parseL_gd _ _ _ Gd.none (fun l hl => Nat.le_trans (lines_size s l hl) hs)
 ·exact Gd.none
theorem eqFault_any (a b : Int) (w : World) : Calls Tryz.prog 20 #[.agg #[.int .i64 a, .int .i64 b], .agg #[.int .i64 a, .int .i64 b]] w fun e w' => e = .returned (.bool true) ∧ Below w.heap.size w w' := by
 have ha : (a != a) = false := by simp
 have hb : (b != b) = false := by simp
 have HB : Hid (Below w.heap.size w ((w.alloc (.cells #[.int .i64 a, .int .i64 b] 32)).alloc (.cells #[.int .i64 a, .int .i64 b] 32))) := ((Below.refl _ _).alloc (Nat.le_refl _) _).alloc (by simp) _
 go_enter Tryz.func20, Tryz.ntmps20
 go_wp2_with fail
 go_ret
 exact ⟨rfl, HB.out⟩
set_option maxRecDepth 100000 in
set_option maxHeartbeats 12800000 in
theorem lawParse_walk (s : ByteArray) (w : World) (hsa : SaidIn w) (hma : MaxIn w) (her : ErrIn w) :
  Calls Tryz.prog 6 #[.string s] w fun e w' => e = .returned (.bool true) ∧ Below w.heap.size w w' := by
 by_cases hs : (1048576 : Int) < (s.size : Int)
 ·go_enter Tryz.func6, Tryz.ntmps6
  go_wp2_with fail
  go_ret
  exact ⟨rfl, Below.refl _ _⟩
 ·have hs' : s.size ≤ 1048576 := by omega
  have GS : Hid (∀ wx : World, Calls Tryz.prog 9 #[.string s] wx fun e w' => ∃ x y z, e = .returned (.tuple #[.agg #[x, y, z], .agg #[.int .i64 (parR s).2.1, .int .i64 (parR s).2.2]]) ∧ BookAt w' x y z (parR s).1.1 (parR s).1.2.1 (parR s).1.2.2 ∧ Below wx.heap.size wx w') := fun wx => specParse_any s wx hs'
  have GI : Hid (∀ wx : World, Below w.heap.size w wx → Calls Tryz.prog 8 #[.string s] wx fun e w' => ∃ x y z, e = .returned (.tuple #[.agg #[x, y, z], .agg #[.int .i64 (parR s).2.1, .int .i64 (parR s).2.2]]) ∧ BookNew wx.heap.size w' x y z (parR s).1.1 (parR s).1.2.1 (parR s).1.2.2 ∧ Below wx.heap.size wx w') := fun wx hx => planParse_any s wx hs' (hsa.keep hx) (hma.keep hx) (her.keep hx)
  have hG := parR_gd s hs'
  generalize parR s = R at *
  obtain ⟨⟨ks, ps, es⟩, l, c⟩ := R
  have hlk : ks.length ≤ 1048576 := hG.sm.s.k
  have hlp : ps.length ≤ 1048576 := hG.sm.s.p
  have hle : es.length ≤ 1048576 := hG.sm.s.e
  have hsu : sumN (fun e => e.fs.length) es ≤ 1048576 := hG.sm.u
  dsimp only at GS GI
  clear hG hsa hma her
  go_enter Tryz.func6, Tryz.ntmps6
  go_wp2_with fail
  refine (GS.out _).mono ?_
  rintro e w1 ⟨x1, y1, z1, rfl, hA1, hb1⟩
  obtain ⟨k1, k2, p1, p2, e1, e2, rfl, rfl, rfl⟩ := BookAt.shapes hA1
  have HB2 : Hid (Below w.heap.size w ((w1.alloc (.cells #[.slice k1 ks.length k2, .slice p1 ps.length p2, .slice e1 es.length e2] 30)).alloc (.cells #[.int .i64 (l : Int), .int .i64 c] 32))) := below_step hb1 (((Below.refl _ _).alloc (Nat.le_refl _) _).alloc (by simp) _)
  have HX2 : Hid (((w1.alloc (.cells #[.slice k1 ks.length k2, .slice p1 ps.length p2, .slice e1 es.length e2] 30)).alloc (.cells #[.int .i64 (l : Int), .int .i64 c] 32)).heap[w1.heap.size]? = some (.cells #[.slice k1 ks.length k2, .slice p1 ps.length p2, .slice e1 es.length e2] 30 (0, 0))) := heap_old w1 _ _
  have HF2 : Hid (((w1.alloc (.cells #[.slice k1 ks.length k2, .slice p1 ps.length p2, .slice e1 es.length e2] 30)).alloc (.cells #[.int .i64 (l : Int), .int .i64 c] 32)).heap[w1.heap.size + 1]? = some (.cells #[.int .i64 (l : Int), .int .i64 c] 32 (0, 0))) := by have h := heap_newF (w1.alloc (.cells #[.slice k1 ks.length k2, .slice p1 ps.length p2, .slice e1 es.length e2] 30)) (.cells #[.int .i64 (l : Int), .int .i64 c] 32); rw [World.size_alloc] at h; exact h
  have HA2 : Hid (BookAt ((w1.alloc (.cells #[.slice k1 ks.length k2, .slice p1 ps.length p2, .slice e1 es.length e2] 30)).alloc (.cells #[.int .i64 (l : Int), .int .i64 c] 32)) (.slice k1 ks.length k2) (.slice p1 ps.length p2) (.slice e1 es.length e2) ks ps es) := hA1.keep (((Below.refl _ _).alloc (Nat.le_refl _) _).alloc (by simp) _)
  go_wp2_with fail
  clear hA1 hb1
  generalize ((w1.alloc (.cells #[.slice k1 ks.length k2, .slice p1 ps.length p2, .slice e1 es.length e2] 30)).alloc (.cells #[.int .i64 (l : Int), .int .i64 c] 32)) = w2 at *
  generalize w1.heap.size = X at *
  refine (GI.out _ HB2.out).mono ?_
  rintro e w3 ⟨x3, y3, z3, rfl, hn3, hb3⟩
  obtain ⟨q1, q2, q3, q4, q5, q6, rfl, rfl, rfl⟩ := hn3.slices
  have T3 : Hid (Below w2.heap.size w2 w3) := hb3
  have x3h := (T3.out.block _ (Array.getElem?_eq_some_iff.1 HX2.out).1).trans HX2.out
  have f3h := (T3.out.block _ (Array.getElem?_eq_some_iff.1 HF2.out).1).trans HF2.out
  obtain ⟨a0, a1, a2⟩ : w3.cell? ⟨X, 0, none⟩ = some (.slice k1 ks.length k2) ∧ w3.cell? ⟨X, 1, none⟩ = some (.slice p1 ps.length p2) ∧ w3.cell? ⟨X, 2, none⟩ = some (.slice e1 es.length e2) := by simp [World.cell?, x3h]
  obtain ⟨b0, b1⟩ : w3.cell? ⟨X + 1, 0, none⟩ = some (.int .i64 (l : Int)) ∧ w3.cell? ⟨X + 1, 1, none⟩ = some (.int .i64 c) := by simp [World.cell?, f3h]
  have zx := lt_of_cell a0
  have zf := lt_of_cell b0
  clear x3h f3h
  have HA : Hid (Below w3.heap.size w3 ((w3.alloc (.cells #[.slice q1 ks.length q2, .slice q3 ps.length q4, .slice q5 es.length q6] 30)).alloc (.cells #[.int .i64 (l : Int), .int .i64 c] 32))) := ((Below.refl _ _).alloc (Nat.le_refl _) _).alloc (by simp) _
  have T4 : Hid (Below w2.heap.size w2 ((w3.alloc (.cells #[.slice q1 ks.length q2, .slice q3 ps.length q4, .slice q5 es.length q6] 30)).alloc (.cells #[.int .i64 (l : Int), .int .i64 c] 32))) := below_step T3.out HA.out
  have HN4 : Hid (BookNew w2.heap.size ((w3.alloc (.cells #[.slice q1 ks.length q2, .slice q3 ps.length q4, .slice q5 es.length q6] 30)).alloc (.cells #[.int .i64 (l : Int), .int .i64 c] 32)) (.slice q1 ks.length q2) (.slice q3 ps.length q4) (.slice q5 es.length q6) ks ps es) := hn3.keep HA.out
  have HY4 : Hid (((w3.alloc (.cells #[.slice q1 ks.length q2, .slice q3 ps.length q4, .slice q5 es.length q6] 30)).alloc (.cells #[.int .i64 (l : Int), .int .i64 c] 32)).heap[w3.heap.size]? = some (.cells #[.slice q1 ks.length q2, .slice q3 ps.length q4, .slice q5 es.length q6] 30 (0, 0))) := heap_old w3 _ _
  have HQ4 : Hid (((w3.alloc (.cells #[.slice q1 ks.length q2, .slice q3 ps.length q4, .slice q5 es.length q6] 30)).alloc (.cells #[.int .i64 (l : Int), .int .i64 c] 32)).heap[w3.heap.size + 1]? = some (.cells #[.int .i64 (l : Int), .int .i64 c] 32 (0, 0))) := by have h := heap_newF (w3.alloc (.cells #[.slice q1 ks.length q2, .slice q3 ps.length q4, .slice q5 es.length q6] 30)) (.cells #[.int .i64 (l : Int), .int .i64 c] 32); rw [World.size_alloc] at h; exact h
  clear hn3 hb3
  go_wp2_with fail
  clear a0 a1 a2 b0 b1 zx zf
  clear HA T3
  generalize ((w3.alloc (.cells #[.slice q1 ks.length q2, .slice q3 ps.length q4, .slice q5 es.length q6] 30)).alloc (.cells #[.int .i64 (l : Int), .int .i64 c] 32)) = w4 at *
  generalize w3.heap.size = Y at *
  refine (eqBook_any _ _ _ _ _ _ ks ps es _ HN4.out.at (HA2.out.keep T4.out)).mono ?_
  rintro e w5 ⟨rfl, hb5⟩
  have T5 : Hid (Below w2.heap.size w2 w5) := below_step T4.out hb5
  have HN5 : Hid (BookNew w2.heap.size w5 (.slice q1 ks.length q2) (.slice q3 ps.length q4) (.slice q5 es.length q6) ks ps es) := HN4.out.keep hb5
  have HY5 : Hid (w5.heap[Y]? = some (.cells #[.slice q1 ks.length q2, .slice q3 ps.length q4, .slice q5 es.length q6] 30 (0, 0))) := (hb5.block _ (Array.getElem?_eq_some_iff.1 HY4.out).1).trans HY4.out
  have HQ5 : Hid (w5.heap[Y + 1]? = some (.cells #[.int .i64 (l : Int), .int .i64 c] 32 (0, 0))) := (hb5.block _ (Array.getElem?_eq_some_iff.1 HQ4.out).1).trans HQ4.out
  clear hb5 T4 HY4 HN4 HQ4
  have x5h := (T5.out.block _ (Array.getElem?_eq_some_iff.1 HX2.out).1).trans HX2.out
  have f5h := (T5.out.block _ (Array.getElem?_eq_some_iff.1 HF2.out).1).trans HF2.out
  obtain ⟨a0, a1, a2⟩ : w5.cell? ⟨X, 0, none⟩ = some (.slice k1 ks.length k2) ∧ w5.cell? ⟨X, 1, none⟩ = some (.slice p1 ps.length p2) ∧ w5.cell? ⟨X, 2, none⟩ = some (.slice e1 es.length e2) := by simp [World.cell?, x5h]
  obtain ⟨b0, b1⟩ : w5.cell? ⟨X + 1, 0, none⟩ = some (.int .i64 (l : Int)) ∧ w5.cell? ⟨X + 1, 1, none⟩ = some (.int .i64 c) := by simp [World.cell?, f5h]
  have zx := lt_of_cell a0
  have zf := lt_of_cell b0
  clear x5h f5h
  have g5h := HQ5.out
  obtain ⟨m0, m1⟩ : w5.cell? ⟨Y + 1, 0, none⟩ = some (.int .i64 (l : Int)) ∧ w5.cell? ⟨Y + 1, 1, none⟩ = some (.int .i64 c) := by simp [World.cell?, g5h]
  clear g5h
  go_wp2_with fail
  refine (eqFault_any _ _ _).mono ?_
  rintro e w6 ⟨rfl, hb6⟩
  clear a0 a1 a2 b0 b1 zx zf
  clear m0 m1
  have T6 : Hid (Below w2.heap.size w2 w6) := below_step T5.out hb6
  have HN6 : Hid (BookNew w2.heap.size w6 (.slice q1 ks.length q2) (.slice q3 ps.length q4) (.slice q5 es.length q6) ks ps es) := HN5.out.keep hb6
  have HY6 : Hid (w6.heap[Y]? = some (.cells #[.slice q1 ks.length q2, .slice q3 ps.length q4, .slice q5 es.length q6] 30 (0, 0))) := (hb6.block _ (Array.getElem?_eq_some_iff.1 HY5.out).1).trans HY5.out
  have HQ6 : Hid (w6.heap[Y + 1]? = some (.cells #[.int .i64 (l : Int), .int .i64 c] 32 (0, 0))) := (hb6.block _ (Array.getElem?_eq_some_iff.1 HQ5.out).1).trans HQ5.out
  clear hb6 T5 HY5 HN5 HQ5
  have g6h := HY6.out
  obtain ⟨c0, c1, c2⟩ : w6.cell? ⟨Y, 0, none⟩ = some (.slice q1 ks.length q2) ∧ w6.cell? ⟨Y, 1, none⟩ = some (.slice q3 ps.length q4) ∧ w6.cell? ⟨Y, 2, none⟩ = some (.slice q5 es.length q6) := by simp [World.cell?, g6h]
  have zy := lt_of_cell c0
  clear g6h
  go_wp2_with fail
  refine (markBookG_any _ _ _ ks ps es w2.heap.size _ HN6.out T6.out.size hlk hlp hle hsu).mono ?_
  rintro e w7 ⟨M, rfl, hM20, hM, hb7, hbx⟩
  have T7 : Hid (Below w2.heap.size w2 w7) := T6.out.trans hb7
  have HY7 : Hid (w7.heap[Y]? = some (.cells #[.slice q1 ks.length q2, .slice q3 ps.length q4, .slice q5 es.length q6] 30 (0, 0))) := hbx _ _ HY6.out
  have HM7 := toHidC hM
  clear c0 c1 c2 zy T6 HY6 HN6 HQ6 hb7 hbx hM
  have g7h := HY7.out
  obtain ⟨c0, c1, c2⟩ : w7.cell? ⟨Y, 0, none⟩ = some (.slice q1 ks.length q2) ∧ w7.cell? ⟨Y, 1, none⟩ = some (.slice q3 ps.length q4) ∧ w7.cell? ⟨Y, 2, none⟩ = some (.slice q5 es.length q6) := by simp [World.cell?, g7h]
  have zy := lt_of_cell c0
  clear g7h
  go_wp2_with fail
  refine (heldBookG_any _ _ _ M _ HM7.out).mono ?_
  rintro e w8 ⟨rfl, hb8⟩
  have HM8 := toHidC (HM7.out.keep hb8)
  clear c0 c1 c2 zy HM7
  have T8 : Hid (Below w2.heap.size w2 w8) := below_step T7.out hb8
  have HY8 : Hid (w8.heap[Y]? = some (.cells #[.slice q1 ks.length q2, .slice q3 ps.length q4, .slice q5 es.length q6] 30 (0, 0))) := (hb8.block _ (Array.getElem?_eq_some_iff.1 HY7.out).1).trans HY7.out
  clear hb8 T7 HY7
  have hM0 : ¬ ((M : Int) < 0) := by omega
  have hMM : ((M : Int) != (M : Int)) = false := by simp
  go_wp2_with fail
  refine (GI.out _ (below_step HB2.out T8.out)).mono ?_
  rintro e w9 ⟨x9, y9, z9, rfl, hn9, hb9⟩
  obtain ⟨h1, h2, h3, h4, h5, h6, rfl, rfl, rfl⟩ := hn9.slices
  have HM9 := toHidC (HM8.out.keep hb9)
  have HN9 : Hid (BookAt w9 (.slice h1 ks.length h2) (.slice h3 ps.length h4) (.slice h5 es.length h6) ks ps es) := hn9.at
  clear HM8 hn9
  have T9 : Hid (Below w2.heap.size w2 w9) := below_step T8.out hb9
  have HY9 : Hid (w9.heap[Y]? = some (.cells #[.slice q1 ks.length q2, .slice q3 ps.length q4, .slice q5 es.length q6] 30 (0, 0))) := (hb9.block _ (Array.getElem?_eq_some_iff.1 HY8.out).1).trans HY8.out
  clear hb9 T8 HY8
  have x9h := (T9.out.block _ (Array.getElem?_eq_some_iff.1 HX2.out).1).trans HX2.out
  have f9h := (T9.out.block _ (Array.getElem?_eq_some_iff.1 HF2.out).1).trans HF2.out
  obtain ⟨a0, a1, a2⟩ : w9.cell? ⟨X, 0, none⟩ = some (.slice k1 ks.length k2) ∧ w9.cell? ⟨X, 1, none⟩ = some (.slice p1 ps.length p2) ∧ w9.cell? ⟨X, 2, none⟩ = some (.slice e1 es.length e2) := by simp [World.cell?, x9h]
  obtain ⟨b0, b1⟩ : w9.cell? ⟨X + 1, 0, none⟩ = some (.int .i64 (l : Int)) ∧ w9.cell? ⟨X + 1, 1, none⟩ = some (.int .i64 c) := by simp [World.cell?, f9h]
  have zx := lt_of_cell a0
  have zf := lt_of_cell b0
  clear x9h f9h
  have HA : Hid (Below w9.heap.size w9 ((w9.alloc (.cells #[.slice h1 ks.length h2, .slice h3 ps.length h4, .slice h5 es.length h6] 30)).alloc (.cells #[.int .i64 (l : Int), .int .i64 c] 32))) := ((Below.refl _ _).alloc (Nat.le_refl _) _).alloc (by simp) _
  have T10 : Hid (Below w2.heap.size w2 ((w9.alloc (.cells #[.slice h1 ks.length h2, .slice h3 ps.length h4, .slice h5 es.length h6] 30)).alloc (.cells #[.int .i64 (l : Int), .int .i64 c] 32))) := below_step T9.out HA.out
  have HN10 : Hid (BookAt ((w9.alloc (.cells #[.slice h1 ks.length h2, .slice h3 ps.length h4, .slice h5 es.length h6] 30)).alloc (.cells #[.int .i64 (l : Int), .int .i64 c] 32)) (.slice h1 ks.length h2) (.slice h3 ps.length h4) (.slice h5 es.length h6) ks ps es) := HN9.out.keep HA.out
  have HM10 := toHidC (HM9.out.keep HA.out)
  have HY10 : Hid (((w9.alloc (.cells #[.slice h1 ks.length h2, .slice h3 ps.length h4, .slice h5 es.length h6] 30)).alloc (.cells #[.int .i64 (l : Int), .int .i64 c] 32)).heap[Y]? = some (.cells #[.slice q1 ks.length q2, .slice q3 ps.length q4, .slice q5 es.length q6] 30 (0, 0))) := (HA.out.block _ (Array.getElem?_eq_some_iff.1 HY9.out).1).trans HY9.out
  have HQ10 : Hid (((w9.alloc (.cells #[.slice h1 ks.length h2, .slice h3 ps.length h4, .slice h5 es.length h6] 30)).alloc (.cells #[.int .i64 (l : Int), .int .i64 c] 32)).heap[w9.heap.size + 1]? = some (.cells #[.int .i64 (l : Int), .int .i64 c] 32 (0, 0))) := by have h := heap_newF (w9.alloc (.cells #[.slice h1 ks.length h2, .slice h3 ps.length h4, .slice h5 es.length h6] 30)) (.cells #[.int .i64 (l : Int), .int .i64 c] 32); rw [World.size_alloc] at h; exact h
  go_wp2_with fail
  clear a0 a1 a2 b0 b1 zx zf
  clear HA T9 HN9 HM9 HY9
  generalize ((w9.alloc (.cells #[.slice h1 ks.length h2, .slice h3 ps.length h4, .slice h5 es.length h6] 30)).alloc (.cells #[.int .i64 (l : Int), .int .i64 c] 32)) = w10 at *
  generalize w9.heap.size = Z at *
  refine (eqBook_any _ _ _ _ _ _ ks ps es _ HN10.out (HA2.out.keep T10.out)).mono ?_
  rintro e w11 ⟨rfl, hb11⟩
  have HQ11 : Hid (w11.heap[Z + 1]? = some (.cells #[.int .i64 (l : Int), .int .i64 c] 32 (0, 0))) := (hb11.block _ (Array.getElem?_eq_some_iff.1 HQ10.out).1).trans HQ10.out
  have HM11 := toHidC (HM10.out.keep hb11)
  clear HM10 HN10 HQ10
  have T11 : Hid (Below w2.heap.size w2 w11) := below_step T10.out hb11
  have HY11 : Hid (w11.heap[Y]? = some (.cells #[.slice q1 ks.length q2, .slice q3 ps.length q4, .slice q5 es.length q6] 30 (0, 0))) := (hb11.block _ (Array.getElem?_eq_some_iff.1 HY10.out).1).trans HY10.out
  clear hb11 T10 HY10
  have x11h := (T11.out.block _ (Array.getElem?_eq_some_iff.1 HX2.out).1).trans HX2.out
  have f11h := (T11.out.block _ (Array.getElem?_eq_some_iff.1 HF2.out).1).trans HF2.out
  obtain ⟨a0, a1, a2⟩ : w11.cell? ⟨X, 0, none⟩ = some (.slice k1 ks.length k2) ∧ w11.cell? ⟨X, 1, none⟩ = some (.slice p1 ps.length p2) ∧ w11.cell? ⟨X, 2, none⟩ = some (.slice e1 es.length e2) := by simp [World.cell?, x11h]
  obtain ⟨b0, b1⟩ : w11.cell? ⟨X + 1, 0, none⟩ = some (.int .i64 (l : Int)) ∧ w11.cell? ⟨X + 1, 1, none⟩ = some (.int .i64 c) := by simp [World.cell?, f11h]
  have zx := lt_of_cell a0
  have zf := lt_of_cell b0
  clear x11h f11h
  have q11 := HQ11.out
  obtain ⟨m0, m1⟩ : w11.cell? ⟨Z + 1, 0, none⟩ = some (.int .i64 (l : Int)) ∧ w11.cell? ⟨Z + 1, 1, none⟩ = some (.int .i64 c) := by simp [World.cell?, q11]
  go_wp2_with fail
  refine (eqFault_any _ _ _).mono ?_
  rintro e w12 ⟨rfl, hb12⟩
  have HM12 := toHidC (HM11.out.keep hb12)
  clear a0 a1 a2 b0 b1 zx zf
  clear m0 m1 q11 HM11 HQ11
  have T12 : Hid (Below w2.heap.size w2 w12) := below_step T11.out hb12
  have HY12 : Hid (w12.heap[Y]? = some (.cells #[.slice q1 ks.length q2, .slice q3 ps.length q4, .slice q5 es.length q6] 30 (0, 0))) := (hb12.block _ (Array.getElem?_eq_some_iff.1 HY11.out).1).trans HY11.out
  clear hb12 T11 HY11
  have g12h := HY12.out
  obtain ⟨c0, c1, c2⟩ : w12.cell? ⟨Y, 0, none⟩ = some (.slice q1 ks.length q2) ∧ w12.cell? ⟨Y, 1, none⟩ = some (.slice q3 ps.length q4) ∧ w12.cell? ⟨Y, 2, none⟩ = some (.slice q5 es.length q6) := by simp [World.cell?, g12h]
  have zy := lt_of_cell c0
  clear g12h
  go_wp2_with fail
  refine (heldBookG_any _ _ _ M _ HM12.out).mono ?_
  rintro e w13 ⟨rfl, hb13⟩
  have HE : Hid (Below w.heap.size w w13) := below_step (below_step HB2.out T12.out) hb13
  clear c0 c1 c2 zy
  go_wp2_with fail
  go_ret
  exact ⟨rfl, HE.out⟩
end Go.Proofs.YtcmgddnckohdaaaGreatDoor.Tx
