
/-
  impl: PlanPrint.
-/
import Derived.Test.YtfjblenkcfdbiaaGreatDoorPrint2
namespace Go.Proofs.YtfjblenkcfdbiaaGreatDoor
open Go.RowKit
attribute [local go_sem] Later.cell Later.frozen
set_option linter.unusedSimpArgs false
set_option linter.unusedVariables false

theorem lines_snoc {w : World} {B : Nat} {v : Value} {l : List ByteArray} {s : ByteArray} (h : w.ownsRow B 9 1 v (l.length + 1) (l.map Value.string ++ [.string s])) : LinesNew w B v (l ++ [s]) := by
  unfold LinesNew
  rw [List.length_append, List.map_append]
  exact h

theorem chgs_far {w w' : World} {B B' n : Nat} {v u : Value} {l : List Chg} {xs : List Value} (h : ChgsNew w B v l) (k : w.ownsRow B' 9 1 u n xs) (hg : w.grownBy w' u.ownBlock) : ChgsNew w' B v l := by
  refine ⟨h.1, ?_⟩
  rcases h.2 with h2 | ⟨g, cap, cur, hv, hb, hc, rest⟩
  · exact .inl h2
  · exact .inr ⟨g, cap, cur, hv, hb, (hg.block g (Array.getElem?_eq_some_iff.1 hc).1 (own_other k hc (by decide))).trans hc, rest⟩
theorem cget {l : List Chg} {k : Nat} (h : k < l.length) : ∃ c, l[k]? = some c ∧ c ∈ l := ⟨l[k], List.getElem?_eq_getElem h, List.getElem_mem h⟩
theorem toHidP {P : Prop} (h : P) : Hid P := h

set_option maxRecDepth 100000 in
set_option maxHeartbeats 6400000 in
theorem planPrint_any (vk vp ve : Value) (ks ps : List Tri) (es : List Ent) (w : World) (hB : BookAt w vk vp ve ks ps es) (nB : BNames ks ps es) (sB : BSmall ks ps es) (hsz : sumN (fun e => e.fs.length) es ≤ 1048576) (hs : SaidIn w) (ht : Lib.TabIs Tryz.prog w "internal/strconv.uint64pow10" .u64 Lib.pow10Tab) :
    Calls Tryz.prog 8 #[.agg #[vk, vp, ve]] w fun e w' => e = .returned (.string (printS ks ps es)) ∧ Below w.heap.size w w' := by
  obtain ⟨i0, hi, hz0, hz1, hz2⟩ := info_parts infoStr
  have HB : Hid (BookAt w vk vp ve ks ps es) := hB
  have NB : Hid (BNames ks ps es) := nB
  have SB : Hid (BSmall ks ps es) := sB
  have HS : Hid (SaidIn w) := hs
  have HT : Hid (Lib.TabIs Tryz.prog w "internal/strconv.uint64pow10" .u64 Lib.pow10Tab) := ht
  have HCL : Hid ((chgsOf es).length ≤ 1048576) := by
    show (chgsOf es).length ≤ 1048576
    rw [chgsOf_len]; exact hsz
  have lk := sB.k
  have lp := sB.p
  have HCO : Hid (∀ wx : World, Below w.heap.size w wx → Calls Tryz.prog 25 #[.agg #[vk, vp, ve]] wx fun e w' => ∃ v, e = .returned v ∧ ChgsNew w' wx.heap.size v (chgsOf es) ∧ Below wx.heap.size wx w') := fun wx hx => changesOf_any vk vp ve es wx (hB.keep hx).e hsz sB.e
  obtain ⟨⟨ak, ck, rfl, hk1, hk2, hk3⟩, ⟨ap, cp, rfl, hp1, hp2, hp3⟩, ⟨ae, ce, rfl, -, -, -⟩⟩ := hB
  unfold maxLen at hk2 hp2
  have HKA : Hid (∀ i t, ks[i]? = some t → ∃ b off, ak = some ⟨b, off, none⟩ ∧ TriAt w b (off + i * 3) t) := hk3
  have HPA : Hid (∀ i t, ps[i]? = some t → ∃ b off, ap = some ⟨b, off, none⟩ ∧ TriAt w b (off + i * 3) t) := hp3
  clear hk3 hp3 nB sB hs ht
  have HX0 : Hid (OwnAt w (w.alloc (.cells #[.slice ak ks.length ck, .slice ap ps.length cp, .slice ae es.length ce] 37)) [[.slice ak ks.length ck, .slice ap ps.length cp, .slice ae es.length ce]]) := (OwnAt.start w).push rfl _ _
  go_enter Tryz.func8, Tryz.ntmps8
  go_wp2_with fail
  refine (bookOk_any _ _ _ ks ps es _ (HB.out.keep HX0.out.below) NB.out SB.out).mono ?_
  rintro e w1 ⟨rfl, hb1⟩
  have HX1 : Hid (OwnAt w w1 _) := HX0.out.call hb1
  have HBX1 : Hid (w1.heap[w.heap.size]? = some (.cells #[.slice ak ks.length ck, .slice ap ps.length cp, .slice ae es.length ce] 37 (0, 0))) := (hb1.block _ (by simp)).trans (by show (w.heap.push _)[w.heap.size]? = _; simp)
  clear HX0 hb1
  cases hbb : bookB ks ps es
  · have HE : Hid (printS ks ps es = ⟨#[]⟩) := by show printS ks ps es = _; unfold printS; rw [hbb]; rfl
    clear hbb
    go_wp2
    go_ret
    exact ⟨ret_str HE.out.symm, HX1.out.below⟩
  have HE : Hid (printS ks ps es = ⟨(joinL (linesB ks ps (chgsOf es))).toArray⟩) := by show printS ks ps es = _; unfold printS; rw [hbb]; rfl
  have HLK : Hid (∀ i, i < ks.length → LineOk (at' ks i)) := by
    unfold bookB baseB at hbb
    simp only [Bool.and_eq_true] at hbb
    exact kinds_line hbb.1.1
  have HLP : Hid (∀ i, i < ps.length → LineOk (at' ps i)) := by
    unfold bookB baseB at hbb
    simp only [Bool.and_eq_true] at hbb
    exact points_line hbb.1.2
  have HTOT : Hid ((joinL (linesB ks ps (chgsOf es))).length ≤ 70368744177664) := linesB_total HLK.out HLP.out SB.out HCL.out
  clear hbb
  have y0 : w1.cell? ⟨w.heap.size, 0, none⟩ = some (.slice ak ks.length ck) := (HX1.out.has 0 _ rfl 0 _ rfl).1
  have y1 : w1.cell? ⟨w.heap.size, 1, none⟩ = some (.slice ap ps.length cp) := (HX1.out.has 0 _ rfl 1 _ rfl).1
  have y2 : w1.cell? ⟨w.heap.size, 2, none⟩ = some (.slice ae es.length ce) := (HX1.out.has 0 _ rfl 2 _ rfl).1
  obtain ⟨bx, hbx⟩ : ∃ bx : Obj, bx = .cells #[.slice ak ks.length ck, .slice ap ps.length cp, .slice ae es.length ce] 37 (0, 0) := ⟨_, rfl⟩
  have HBE : Hid (bx = .cells #[.slice ak ks.length ck, .slice ap ps.length cp, .slice ae es.length ce] 37 (0, 0)) := hbx
  rw [← hbx] at HBX1
  clear hbx
  -- GENERATED
  have HI0 : Hid (Below w.heap.size w w1 ∧ w1.heap[w.heap.size]? = some bx ∧ LinesNew w1 (w.heap.size + 1) (.slice none 0 0) ([])) := ⟨HX1.out.below, HBX1.out, ⟨rfl, .inl ⟨rfl, rfl⟩⟩⟩
  clear HX1 HBX1
  go_wp2
  go_loopw [3, 5, 17] (fun o _ i wr => ∃ k : Nat, k ≤ ks.length ∧ i = .int .i64 k ∧ Hid (Below w.heap.size w wr ∧ wr.heap[w.heap.size]? = some bx ∧ LinesNew wr (w.heap.size + 1) o ((ks.take k).map (namedS wKind)))) (fun _ _ i _ => ks.length - (intOf i).toNat)
  case atStart => exact ⟨0, Nat.zero_le _, rfl, toHidP (by simpa using HI0.out)⟩
  case round =>
    clear HI0
    obtain ⟨k, hk, rfl, HI⟩ := hrel
    by_cases hlt : k < ks.length
    · obtain ⟨b, off, rfl, hc⟩ := HKA.out k _ (at_get hlt)
      obtain ⟨d0, d1, d2⟩ := hc.keep HI.out.1 (Nat.le_refl _)
      have HLO : Hid (LineOk (at' ks k)) := HLK.out k hlt
      have HK : Hid ((ks.take (k + 1)).map (namedS wKind) = (ks.take k).map (namedS wKind) ++ [namedS wKind (at' ks k)] ∧ ((ks.take k).map (namedS wKind)).length ≤ 2097152) := by
        refine ⟨?_, ?_⟩
        · rw [mapTake _ ks k _ (at_get hlt)]
        · have h1 := SB.out.k; have h2 := SB.out.p
          simp; omega
      generalize at' ks k = t at *
      generalize hln : (ks.take k).map (namedS wKind) = ln at *
      clear hc hln
      have hk0 : (0 : Int) ≤ (k : Int) := by omega
      have hk1 : (k : Int) < (ks.length : Int) := by omega
      have hal : Hid (Below wr.heap.size wr (wr.alloc (.cells #[.string t.s, .int .i64 t.x, .int .i64 t.y] 42))) := (Below.refl _ _).alloc (Nat.le_refl _) _
      have HW1 : Hid (Below w.heap.size w (wr.alloc (.cells #[.string t.s, .int .i64 t.x, .int .i64 t.y] 42))) := below_step HI.out.1 hal.out
      go_wp2_with fail
      refine (namedLine_any wKind t _ (by decide) HLO.out.s HLO.out.x0 HLO.out.y0 HLO.out.x1 HLO.out.y1 (tab_keep HT.out HW1.out)).mono ?_
      rintro e w2 ⟨rfl, hb2⟩
      have HB2 : Hid (Below wr.heap.size wr w2) := below_step hal.out hb2
      have HI2 : Hid (Below w.heap.size w w2 ∧ w2.heap[w.heap.size]? = some bx ∧ LinesNew w2 (w.heap.size + 1) u3 (ln)) := ⟨below_step HI.out.1 HB2.out, (HB2.out.block _ (Array.getElem?_eq_some_iff.1 HI.out.2.1).1).trans HI.out.2.1, ownsRow_keep HI.out.2.2 HB2.out⟩
      clear hb2 hal HW1 HI HB2
      have hzw : w.heap.size < w2.heap.size := (Array.getElem?_eq_some_iff.1 HI2.out.2.1).1
      have hlen : ln.length ≤ 2097152 := HK.out.2
      generalize namedS wKind t = line at *
      have hown := HI2.out.2.2
      unfold LinesNew at hown
      go_wp2_with (at_builtin; refine wpList_append_own _ rfl _ _ 43 rfl (w.heap.size + 1) 9 i0 (.string ByteArray.empty) 1 16 Tryz.underlying43 hi hz0 hz1 hz2 rfl (by decide) _ _ _ rfl (hown.alloc _) ⟨w2.heap.size, 0, none⟩ 1 1 [.string line] rfl rfl (cell_one_new _ _ _) (fun x hx => by simp at hx; subst hx; rfl) (by unfold maxLen; omega) (by omega) (by simp; omega) ?_; intro v' w3 hown' hgrow3 hnil3)
      have HI3 : Hid (Below w.heap.size w w3 ∧ w3.heap[w.heap.size]? = some bx ∧ LinesNew w3 (w.heap.size + 1) v' (ln ++ [line])) := ⟨(HI2.out.1.alloc HI2.out.1.size _).grown hgrow3 (by simp; omega) (fun k hk => by have := own_ge HI2.out.2.2 k hk; omega), (hgrow3.block _ (by simp; omega) (fun e => by have := own_ge HI2.out.2.2 _ e.symm; omega)).trans ((Below.heap_alloc _ _ _ hzw).trans HI2.out.2.1), lines_snoc hown'⟩
      rw [← HK.out.1] at HI3
      exact ⟨⟨k + 1, by omega, by go_num, HI3⟩, by simp [intOf]; omega⟩
    · have HI1 : Hid (Below w.heap.size w wr ∧ wr.heap[w.heap.size]? = some bx ∧ LinesNew wr (w.heap.size + 1) u3 (ks.map (namedS wKind))) := by
        have := HI.out
        rw [List.take_of_length_le (by omega)] at this
        exact this
      clear HI y0 y1 y2
      generalize wr = w2 at *
      generalize u3 = o2 at *
      have y0 : w2.cell? ⟨w.heap.size, 0, none⟩ = some (.slice ak ks.length ck) := by have h := HI1.out.2.1; rw [HBE.out] at h; simp [World.cell?, h]
      have y1 : w2.cell? ⟨w.heap.size, 1, none⟩ = some (.slice ap ps.length cp) := by have h := HI1.out.2.1; rw [HBE.out] at h; simp [World.cell?, h]
      have y2 : w2.cell? ⟨w.heap.size, 2, none⟩ = some (.slice ae es.length ce) := by have h := HI1.out.2.1; rw [HBE.out] at h; simp [World.cell?, h]
      go_wp2
      clear y0 y1 y2
      go_loopw [3, 7, 36] (fun o _ i wr => ∃ k : Nat, k ≤ ps.length ∧ i = .int .i64 k ∧ Hid (Below w.heap.size w wr ∧ wr.heap[w.heap.size]? = some bx ∧ LinesNew wr (w.heap.size + 1) o (ks.map (namedS wKind) ++ (ps.take k).map (namedS wPoint)))) (fun _ _ i _ => ps.length - (intOf i).toNat)
      case atStart => exact ⟨0, Nat.zero_le _, rfl, toHidP (by simpa using HI1.out)⟩
      case round =>
        clear HI1
        obtain ⟨k, hk, rfl, HI⟩ := hrel
        by_cases hlt : k < ps.length
        · obtain ⟨b, off, rfl, hc⟩ := HPA.out k _ (at_get hlt)
          obtain ⟨d0, d1, d2⟩ := hc.keep HI.out.1 (Nat.le_refl _)
          have HLO : Hid (LineOk (at' ps k)) := HLP.out k hlt
          have HK : Hid (ks.map (namedS wKind) ++ (ps.take (k + 1)).map (namedS wPoint) = ks.map (namedS wKind) ++ (ps.take k).map (namedS wPoint) ++ [namedS wPoint (at' ps k)] ∧ (ks.map (namedS wKind) ++ (ps.take k).map (namedS wPoint)).length ≤ 2097152) := by
            refine ⟨?_, ?_⟩
            · rw [mapTake _ ps k _ (at_get hlt)]; simp
            · have h1 := SB.out.k; have h2 := SB.out.p
              simp; omega
          generalize at' ps k = t at *
          generalize hln : ks.map (namedS wKind) ++ (ps.take k).map (namedS wPoint) = ln at *
          clear hc hln
          have hk0 : (0 : Int) ≤ (k : Int) := by omega
          have hk1 : (k : Int) < (ps.length : Int) := by omega
          have hal : Hid (Below wr.heap.size wr (wr.alloc (.cells #[.string t.s, .int .i64 t.x, .int .i64 t.y] 57))) := (Below.refl _ _).alloc (Nat.le_refl _) _
          have HW1 : Hid (Below w.heap.size w (wr.alloc (.cells #[.string t.s, .int .i64 t.x, .int .i64 t.y] 57))) := below_step HI.out.1 hal.out
          go_wp2_with fail
          refine (namedLine_any wPoint t _ (by decide) HLO.out.s HLO.out.x0 HLO.out.y0 HLO.out.x1 HLO.out.y1 (tab_keep HT.out HW1.out)).mono ?_
          rintro e w2 ⟨rfl, hb2⟩
          have HB2 : Hid (Below wr.heap.size wr w2) := below_step hal.out hb2
          have HI2 : Hid (Below w.heap.size w w2 ∧ w2.heap[w.heap.size]? = some bx ∧ LinesNew w2 (w.heap.size + 1) u3 (ln)) := ⟨below_step HI.out.1 HB2.out, (HB2.out.block _ (Array.getElem?_eq_some_iff.1 HI.out.2.1).1).trans HI.out.2.1, ownsRow_keep HI.out.2.2 HB2.out⟩
          clear hb2 hal HW1 HI HB2
          have hzw : w.heap.size < w2.heap.size := (Array.getElem?_eq_some_iff.1 HI2.out.2.1).1
          have hlen : ln.length ≤ 2097152 := HK.out.2
          generalize namedS wPoint t = line at *
          have hown := HI2.out.2.2
          unfold LinesNew at hown
          go_wp2_with (at_builtin; refine wpList_append_own _ rfl _ _ 43 rfl (w.heap.size + 1) 9 i0 (.string ByteArray.empty) 1 16 Tryz.underlying43 hi hz0 hz1 hz2 rfl (by decide) _ _ _ rfl (hown.alloc _) ⟨w2.heap.size, 0, none⟩ 1 1 [.string line] rfl rfl (cell_one_new _ _ _) (fun x hx => by simp at hx; subst hx; rfl) (by unfold maxLen; omega) (by omega) (by simp; omega) ?_; intro v' w3 hown' hgrow3 hnil3)
          have HI3 : Hid (Below w.heap.size w w3 ∧ w3.heap[w.heap.size]? = some bx ∧ LinesNew w3 (w.heap.size + 1) v' (ln ++ [line])) := ⟨(HI2.out.1.alloc HI2.out.1.size _).grown hgrow3 (by simp; omega) (fun k hk => by have := own_ge HI2.out.2.2 k hk; omega), (hgrow3.block _ (by simp; omega) (fun e => by have := own_ge HI2.out.2.2 _ e.symm; omega)).trans ((Below.heap_alloc _ _ _ hzw).trans HI2.out.2.1), lines_snoc hown'⟩
          rw [← HK.out.1] at HI3
          exact ⟨⟨k + 1, by omega, by go_num, HI3⟩, by simp [intOf]; omega⟩
        · have HI1 : Hid (Below w.heap.size w wr ∧ wr.heap[w.heap.size]? = some bx ∧ LinesNew wr (w.heap.size + 1) u3 (ks.map (namedS wKind) ++ ps.map (namedS wPoint))) := by
            have := HI.out
            rw [List.take_of_length_le (by omega)] at this
            exact this
          clear HI
          generalize wr = w3 at *
          generalize u3 = o3 at *
          have y0 : w3.cell? ⟨w.heap.size, 0, none⟩ = some (.slice ak ks.length ck) := by have h := HI1.out.2.1; rw [HBE.out] at h; simp [World.cell?, h]
          have y1 : w3.cell? ⟨w.heap.size, 1, none⟩ = some (.slice ap ps.length cp) := by have h := HI1.out.2.1; rw [HBE.out] at h; simp [World.cell?, h]
          have y2 : w3.cell? ⟨w.heap.size, 2, none⟩ = some (.slice ae es.length ce) := by have h := HI1.out.2.1; rw [HBE.out] at h; simp [World.cell?, h]
          go_wp2_with fail
          refine (HCO.out _ HI1.out.1).mono ?_
          rintro e w4 ⟨vc, rfl, hC4, hb4⟩
          have HI2 : Hid (Below w.heap.size w w4 ∧ w4.heap[w.heap.size]? = some bx ∧ LinesNew w4 (w.heap.size + 1) o3 (ks.map (namedS wKind) ++ ps.map (namedS wPoint))) := ⟨below_step HI1.out.1 hb4, (hb4.block _ (Array.getElem?_eq_some_iff.1 HI1.out.2.1).1).trans HI1.out.2.1, ownsRow_keep HI1.out.2.2 hb4⟩
          obtain ⟨ac, cc, rfl, -, -, -⟩ := hC4.at
          have HCS : Hid (∀ c ∈ chgsOf es, c.f.size ≤ 1048576 ∧ c.v.size ≤ 1048576) := chgs_small SB.out
          have hcl : (chgsOf es).length ≤ 1048576 := HCL.out
          clear HI1 HCO HCL y0 y1 y2 hb4
          generalize chgsOf es = cs at *
          have HI1 : Hid ((Below w.heap.size w w4 ∧ w4.heap[w.heap.size]? = some bx ∧ LinesNew w4 (w.heap.size + 1) o3 (ks.map (namedS wKind) ++ ps.map (namedS wPoint))) ∧ ChgsNew w4 w3.heap.size (.slice ac cs.length cc) cs) := ⟨HI2.out, hC4⟩
          clear HI2 hC4
          go_wp2
          go_loopw [3, 9, 54] (fun o _ i wr => ∃ k : Nat, k ≤ cs.length ∧ i = .int .i64 k ∧ Hid ((Below w.heap.size w wr ∧ wr.heap[w.heap.size]? = some bx ∧ LinesNew wr (w.heap.size + 1) o (ks.map (namedS wKind) ++ ps.map (namedS wPoint) ++ (cs.take k).map theForm)) ∧ ChgsNew wr w3.heap.size (.slice ac cs.length cc) cs)) (fun _ _ i _ => cs.length - (intOf i).toNat)
          case atStart => exact ⟨0, Nat.zero_le _, rfl, toHidP (by simpa using HI1.out)⟩
          case round =>
            clear HI1
            rename_i kk1 kk2
            obtain ⟨k, hk, rfl, HI⟩ := hrel
            by_cases hlt : k < cs.length
            · obtain ⟨c, hcg, hcm⟩ := cget hlt
              obtain ⟨_, _, hsl, _, hcap, hc3⟩ := HI.out.2.at
              cases hsl
              obtain ⟨b, off, hab, d0, d1, d2, d3⟩ := hc3 k c hcg
              unfold maxLen at hcap
              have hsm := HCS.out c hcm
              have HK : Hid (ks.map (namedS wKind) ++ ps.map (namedS wPoint) ++ (cs.take (k + 1)).map theForm = ks.map (namedS wKind) ++ ps.map (namedS wPoint) ++ (cs.take k).map theForm ++ [theForm c] ∧ (ks.map (namedS wKind) ++ ps.map (namedS wPoint) ++ (cs.take k).map theForm).length ≤ 4194304) := by
                refine ⟨?_, ?_⟩
                · rw [mapTake _ cs k _ hcg]; simp
                · have h1 := SB.out.k; have h2 := SB.out.p
                  simp; omega
              generalize hln : ks.map (namedS wKind) ++ ps.map (namedS wPoint) ++ (cs.take k).map theForm = ln at *
              clear hc3 hln hcg hcm
              have hk0 : (0 : Int) ≤ (k : Int) := by omega
              have hk1 : (k : Int) < (cs.length : Int) := by omega
              obtain rfl := hab
              have hal : Hid (Below wr.heap.size wr (wr.alloc (.cells #[.string c.f, .int .i64 c.what, .int .i64 c.num, .string c.v] 65))) := (Below.refl _ _).alloc (Nat.le_refl _) _
              have HW1 : Hid (Below w.heap.size w (wr.alloc (.cells #[.string c.f, .int .i64 c.what, .int .i64 c.num, .string c.v] 65))) := below_step HI.out.1.1 hal.out
              go_wp2_with fail
              refine (planForm_any c _ (HS.out.keep HW1.out) (tab_keep HT.out HW1.out) hsm.1 hsm.2).mono ?_
              rintro e w2 ⟨rfl, hb2⟩
              have HB2 : Hid (Below wr.heap.size wr w2) := below_step hal.out hb2
              have HI2 : Hid ((Below w.heap.size w w2 ∧ w2.heap[w.heap.size]? = some bx ∧ LinesNew w2 (w.heap.size + 1) u3 (ln)) ∧ ChgsNew w2 w3.heap.size (.slice (some ⟨b, off, none⟩) cs.length cc) cs) := ⟨⟨below_step HI.out.1.1 HB2.out, (HB2.out.block _ (Array.getElem?_eq_some_iff.1 HI.out.1.2.1).1).trans HI.out.1.2.1, ownsRow_keep HI.out.1.2.2 HB2.out⟩, ownsRow_keep HI.out.2 HB2.out⟩
              clear hb2 hal HW1 HI HB2
              have hzw : w.heap.size < w2.heap.size := (Array.getElem?_eq_some_iff.1 HI2.out.1.2.1).1
              have hlen : ln.length ≤ 4194304 := HK.out.2
              have HKE : Hid (ks.map (namedS wKind) ++ ps.map (namedS wPoint) ++ (cs.take (k + 1)).map theForm = ln ++ [theForm c]) := HK.out.1
              clear HK
              change Hid (_ = ln ++ [bif formB c then formS c else ⟨#[]⟩]) at HKE
              generalize (bif formB c then formS c else ⟨#[]⟩) = line at *
              have hown := HI2.out.1.2.2
              unfold LinesNew at hown
              go_wp2_with (at_builtin; refine wpList_append_own _ rfl _ _ 43 rfl (w.heap.size + 1) 9 i0 (.string ByteArray.empty) 1 16 Tryz.underlying43 hi hz0 hz1 hz2 rfl (by decide) _ _ _ rfl (hown.alloc _) ⟨w2.heap.size, 0, none⟩ 1 1 [.string line] rfl rfl (cell_one_new _ _ _) (fun x hx => by simp at hx; subst hx; rfl) (by unfold maxLen; omega) (by omega) (by simp; omega) ?_; intro v' w5 hown' hgrow3 hnil3)
              have HI3 : Hid ((Below w.heap.size w w5 ∧ w5.heap[w.heap.size]? = some bx ∧ LinesNew w5 (w.heap.size + 1) v' (ln ++ [line])) ∧ ChgsNew w5 w3.heap.size (.slice (some ⟨b, off, none⟩) cs.length cc) cs) := ⟨⟨(HI2.out.1.1.alloc HI2.out.1.1.size _).grown hgrow3 (by simp; omega) (fun k hk => by have := own_ge HI2.out.1.2.2 k hk; omega), (hgrow3.block _ (by simp; omega) (fun e => by have := own_ge HI2.out.1.2.2 _ e.symm; omega)).trans ((Below.heap_alloc _ _ _ hzw).trans HI2.out.1.2.1), lines_snoc hown'⟩, chgs_far (ownsRow_keep HI2.out.2 ((Below.refl _ _).alloc (Nat.le_refl _) _)) (hown.alloc _) hgrow3⟩
              rw [← HKE.out] at HI3
              exact ⟨⟨k + 1, by omega, by go_num, HI3⟩, by simp [intOf]; omega⟩
            · have HI1 : Hid (Below w.heap.size w wr ∧ wr.heap[w.heap.size]? = some bx ∧ LinesNew wr (w.heap.size + 1) u3 (ks.map (namedS wKind) ++ ps.map (namedS wPoint) ++ cs.map theForm)) := by
                have := HI.out.1
                rw [List.take_of_length_le (by omega)] at this
                exact this
              clear HI
              have HT1 : Hid (TextsAt wr u3 (linesB ks ps cs)) := texts_of_own (base := w.heap.size + 1) (e := 9) HI1.out.2.2
              go_wp2_with fail
              refine (textOf_any _ _ _ HT1.out HTOT.out).mono ?_
              rintro e w6 ⟨rfl, hb6⟩
              have HB6 : Hid (Below w.heap.size w w6) := below_step HI1.out.1 hb6
              clear hb6
              rw [← HE.out]
              go_wp2
              go_ret
              exact ⟨rfl, HB6.out⟩
end Go.Proofs.YtfjblenkcfdbiaaGreatDoor
