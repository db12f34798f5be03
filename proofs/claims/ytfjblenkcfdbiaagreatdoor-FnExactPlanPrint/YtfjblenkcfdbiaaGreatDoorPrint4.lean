
/-
  The specification: a book as a text.
-/
import Derived.Test.YtfjblenkcfdbiaaGreatDoorPrint2
namespace Go.Proofs.YtfjblenkcfdbiaaGreatDoor
open Go.RowKit
attribute [local go_sem] Later.cell Later.frozen
set_option linter.unusedSimpArgs false
set_option linter.unusedVariables false

def sKindSp : ByteArray := ⟨#[107, 105, 110, 100, 32]⟩
def sPointSp : ByteArray := ⟨#[112, 111, 105, 110, 116, 32]⟩
/-- One more line behind a text, as the specification writes it. -/
def stepT (word out : ByteArray) (t : Tri) : ByteArray := cat (cat (cat (cat (cat (cat (cat out word) t.s) sSp) (decS t.x.toNat)) sSp) (decS t.y.toNat)) sNl
def stepC (out : ByteArray) (c : Chg) : ByteArray := cat (cat out (theForm c)) sNl
def ofL (l : List ByteArray) : ByteArray := ⟨(joinL l).toArray⟩
theorem bytes_catP (a b : ByteArray) : bytes (cat a b) = bytes a ++ bytes b := by simp [bytes, cat]
theorem bytes_ofL (l : List ByteArray) : bytes (ofL l) = joinL l := by simp [bytes, ofL]
theorem ofL_size (l : List ByteArray) : (ofL l).size = (joinL l).length := by rw [← bytes_length, bytes_ofL]
theorem stepK_eq (l : List ByteArray) (t : Tri) : stepT sKindSp (ofL l) t = ofL (l ++ [namedS wKind t]) := by
  refine bytes_inj ?_
  have e : bytes sKindSp = bytes wKind ++ bytes sSp := rfl
  have e2 : bytes sNl = [10] := rfl
  simp only [stepT, namedS, bytes_catP, bytes_ofL, joinL_append, joinL, e, e2, List.append_assoc, List.append_nil]
theorem stepP_eq (l : List ByteArray) (t : Tri) : stepT sPointSp (ofL l) t = ofL (l ++ [namedS wPoint t]) := by
  refine bytes_inj ?_
  have e : bytes sPointSp = bytes wPoint ++ bytes sSp := rfl
  have e2 : bytes sNl = [10] := rfl
  simp only [stepT, namedS, bytes_catP, bytes_ofL, joinL_append, joinL, e, e2, List.append_assoc, List.append_nil]
theorem stepC_eq (l : List ByteArray) (c : Chg) : stepC (ofL l) c = ofL (l ++ [theForm c]) := by
  refine bytes_inj ?_
  have e2 : bytes sNl = [10] := rfl
  simp only [stepC, bytes_catP, bytes_ofL, joinL_append, joinL, e2, List.append_assoc, List.append_nil]
structure Smalls3 (word out : ByteArray) (t : Tri) : Prop where
  a0 : Small out
  a1 : Small word
  a2 : Small (cat out word)
  a3 : Small t.s
  a4 : Small (cat (cat out word) t.s)
  a5 : Small sSp
  a6 : Small (cat (cat (cat out word) t.s) sSp)
  a7 : Small (decS t.x.toNat)
  a8 : Small (cat (cat (cat (cat out word) t.s) sSp) (decS t.x.toNat))
  a9 : Small (cat (cat (cat (cat (cat out word) t.s) sSp) (decS t.x.toNat)) sSp)
  aA : Small (decS t.y.toNat)
  aB : Small (cat (cat (cat (cat (cat (cat out word) t.s) sSp) (decS t.x.toNat)) sSp) (decS t.y.toNat))
  aC : Small sNl
theorem Smalls3.of {word out : ByteArray} {t : Tri} (hw : word.size ≤ 6) (ho : out.size ≤ 70368744177664) (h : LineOk t) : Smalls3 word out t := by
  have h0 := h.x0; have h1 := h.x1; have h2 := h.y0; have h3 := h.y1; have h4 := h.s
  have e2 : sSp.size = 1 := rfl
  have e5 : sNl.size = 1 := rfl
  have e3 := decS_size t.x.toNat (by omega)
  have e4 := decS_size t.y.toNat (by omega)
  constructor <;> unfold Small <;> (try simp only [cat_size]) <;> omega

theorem chgs_split (es : List Ent) (k : Nat) : chgsOf es = chgsOf (es.take k) ++ chgsOf (es.drop k) := by
  unfold chgsOf
  rw [← List.flatMap_append, List.take_append_drop]
theorem pre_small {full P R : List ByteArray} (h : (joinL full).length ≤ 70368744177664) (e : full = P ++ R) : (ofL P).size ≤ 70368744177664 := by
  rw [ofL_size]
  rw [e, joinL_append, List.length_append] at h
  omega
theorem small_c {out f : ByteArray} (ho : out.size ≤ 70368744177664) (hf : f.size + 1 ≤ 3000000) : Small out ∧ Small f ∧ Small (cat out f) ∧ Small sNl := by
  have e5 : sNl.size = 1 := rfl
  refine ⟨?_, ?_, ?_, ?_⟩ <;> unfold Small <;> (try simp only [cat_size]) <;> omega
theorem toHidQ {P : Prop} (h : P) : Hid P := h

set_option maxRecDepth 100000 in
set_option maxHeartbeats 12800000 in
theorem specPrint_any (vk vp ve : Value) (ks ps : List Tri) (es : List Ent) (w : World) (hB : BookAt w vk vp ve ks ps es) (nB : BNames ks ps es) (sB : BSmall ks ps es) (hsz : sumN (fun e => e.fs.length) es ≤ 1048576) :
    Calls Tryz.prog 6 #[.agg #[vk, vp, ve]] w fun e w' => e = .returned (.string (printS ks ps es)) ∧ Below w.heap.size w w' := by
  have HB : Hid (BookAt w vk vp ve ks ps es) := hB
  have NB : Hid (BNames ks ps es) := nB
  have SB : Hid (BSmall ks ps es) := sB
  have HCL : Hid ((chgsOf es).length ≤ 1048576) := by
    show (chgsOf es).length ≤ 1048576
    rw [chgsOf_len]; exact hsz
  have lk := sB.k
  have lp := sB.p
  have le := sB.e
  obtain ⟨⟨ak, ck, rfl, hk1, hk2, hk3⟩, ⟨ap, cp, rfl, hp1, hp2, hp3⟩, ⟨ae, ce, rfl, he1, he2, he3⟩⟩ := hB
  unfold maxLen at hk2 hp2 he2
  have HKA : Hid (∀ i t, ks[i]? = some t → ∃ b off, ak = some ⟨b, off, none⟩ ∧ TriAt w b (off + i * 3) t) := hk3
  have HPA : Hid (∀ i t, ps[i]? = some t → ∃ b off, ap = some ⟨b, off, none⟩ ∧ TriAt w b (off + i * 3) t) := hp3
  have HEA : Hid (∀ i e, es[i]? = some e → ∃ b off, ae = some ⟨b, off, none⟩ ∧ EntAt w b (off + i * 2) e) := he3
  clear hk3 hp3 he3 nB sB
  have HX0 : Hid (OwnAt w (w.alloc (.cells #[.slice ak ks.length ck, .slice ap ps.length cp, .slice ae es.length ce] 37)) [[.slice ak ks.length ck, .slice ap ps.length cp, .slice ae es.length ce]]) := (OwnAt.start w).push rfl _ _
  go_enter Tryz.func6, Tryz.ntmps6
  go_wp2_with fail
  refine (specBookOk_any _ _ _ ks ps es _ (HB.out.keep HX0.out.below) NB.out SB.out).mono ?_
  rintro e w1 ⟨rfl, hb1⟩
  have HX1 : Hid (OwnAt w w1 _) := HX0.out.call hb1
  have HBX1 : Hid (w1.heap[w.heap.size]? = some (.cells #[.slice ak ks.length ck, .slice ap ps.length cp, .slice ae es.length ce] 37 (0, 0))) := (hb1.block _ (by simp)).trans (by show (w.heap.push _)[w.heap.size]? = _; simp)
  clear HX0 hb1
  cases hbb : bookB ks ps es
  · have HE : Hid (printS ks ps es = ⟨#[]⟩) := by show printS ks ps es = _; unfold printS; rw [hbb]; rfl
    clear hbb
    go_wp2
    go_ret
    exact ⟨ret_str HE.out.symm, HX1.out.below⟩
  have HE : Hid (printS ks ps es = ofL (linesB ks ps (chgsOf es))) := by show printS ks ps es = _; unfold printS; rw [hbb]; rfl
  have HLK : Hid (∀ i, i < ks.length → LineOk (at' ks i)) := by
    unfold bookB baseB at hbb
    simp only [Bool.and_eq_true] at hbb
    exact kinds_line hbb.1.1
  have HLP : Hid (∀ i, i < ps.length → LineOk (at' ps i)) := by
    unfold bookB baseB at hbb
    simp only [Bool.and_eq_true] at hbb
    exact points_line hbb.1.2
  have HTOT : Hid ((joinL (linesB ks ps (chgsOf es))).length ≤ 70368744177664) := linesB_total HLK.out HLP.out SB.out HCL.out
  clear hbb
  obtain ⟨bx, hbx⟩ : ∃ bx : Obj, bx = .cells #[.slice ak ks.length ck, .slice ap ps.length cp, .slice ae es.length ce] 37 (0, 0) := ⟨_, rfl⟩
  have HBE : Hid (bx = .cells #[.slice ak ks.length ck, .slice ap ps.length cp, .slice ae es.length ce] 37 (0, 0)) := hbx
  rw [← hbx] at HBX1
  clear hbx
  have hadd := add_small Tryz.prog
  -- GENERATED
  have HI0 : Hid (Below w.heap.size w w1 ∧ w1.heap[w.heap.size]? = some bx) := ⟨HX1.out.below, HBX1.out⟩
  have HZ0 : Hid ((⟨#[]⟩ : ByteArray) = ofL []) := rfl
  clear HX1 HBX1
  go_wp2
  go_loopw [3, 4, 5] (fun o i _ wr => ∃ (k : Nat) (z : ByteArray), k ≤ ks.length ∧ i = .int .i64 k ∧ o = .string z ∧ Hid (z = ofL ((ks.take k).map (namedS wKind))) ∧ Hid (Below w.heap.size w wr ∧ wr.heap[w.heap.size]? = some bx)) (fun _ i _ _ => ks.length - (intOf i).toNat)
  case atStart => exact ⟨0, _, Nat.zero_le _, rfl, rfl, toHidQ (by simpa using HZ0.out), HI0⟩
  case round =>
    clear HI0 HZ0
    obtain ⟨k, z, hk, rfl, rfl, HZ, HI⟩ := hrel
    have y0 : wr.cell? ⟨w.heap.size, 0, none⟩ = some (.slice ak ks.length ck) := by have h := HI.out.2; rw [HBE.out] at h; simp [World.cell?, h]
    have y1 : wr.cell? ⟨w.heap.size, 1, none⟩ = some (.slice ap ps.length cp) := by have h := HI.out.2; rw [HBE.out] at h; simp [World.cell?, h]
    have y2 : wr.cell? ⟨w.heap.size, 2, none⟩ = some (.slice ae es.length ce) := by have h := HI.out.2; rw [HBE.out] at h; simp [World.cell?, h]
    have hzw : w.heap.size < wr.heap.size := (Array.getElem?_eq_some_iff.1 HI.out.2).1
    by_cases hlt : k < ks.length
    · obtain ⟨b, off, hab, hc⟩ := HKA.out k _ (at_get hlt)
      obtain ⟨d0, d1, d2⟩ := hc.keep HI.out.1 (Nat.le_refl _)
      have HLO : Hid (LineOk (at' ks k)) := HLK.out k hlt
      have hzs : z.size ≤ 70368744177664 := by
        rw [HZ.out, ofL_size]
        have h := HTOT.out
        have e : linesB ks ps (chgsOf es) = ((ks.take k).map (namedS wKind)) ++ ((ks.drop k).map (namedS wKind) ++ (ps.map (namedS wPoint) ++ (chgsOf es).map theForm)) := by
          have h2 : ks.map (namedS wKind) = (ks.take k).map (namedS wKind) ++ (ks.drop k).map (namedS wKind) := by rw [← List.map_append, List.take_append_drop]
          simp only [linesB, linesK, linesP, linesC, List.append_assoc]
          rw [h2]
          simp only [List.append_assoc]
        rw [e, joinL_append, List.length_append] at h
        omega
      have HZN : Hid (stepT sKindSp z (at' ks k) = ofL ((ks.take (k + 1)).map (namedS wKind))) := by
        show _ = _
        rw [HZ.out, stepK_eq, mapTake _ ks k _ (at_get hlt)]
        skip
      clear HZ
      generalize at' ks k = t at *
      obtain rfl := hab
      clear hc
      obtain ⟨s0, s1, s2, s3, s4, s5, s6, s7, s8, s9, sA, sB, sC⟩ := Smalls3.of (word := sKindSp) (out := z) (t := t) (by decide) hzs HLO.out
      simp only [sSp, sKindSp, sNl] at s0 s1 s2 s3 s4 s5 s6 s7 s8 s9 sA sB sC
      have hk0 : (0 : Int) ≤ (k : Int) := by omega
      have hk1 : (k : Int) < (ks.length : Int) := by omega
      have hbxN : (wr.alloc (.cells #[.string t.s, .int .i64 t.x, .int .i64 t.y] 42)).heap[wr.heap.size]? = some (.cells #[.string t.s, .int .i64 t.x, .int .i64 t.y] 42) := by show (wr.heap.push _)[wr.heap.size]? = _; simp
      have HNW : Hid (Below w.heap.size w (wr.alloc (.cells #[.string t.s, .int .i64 t.x, .int .i64 t.y] 42)) ∧ (wr.alloc (.cells #[.string t.s, .int .i64 t.x, .int .i64 t.y] 42)).heap[w.heap.size]? = some bx ∧ (wr.alloc (.cells #[.string t.s, .int .i64 t.x, .int .i64 t.y] 42)).cell? ⟨wr.heap.size, 0, none⟩ = some (.string t.s) ∧ (wr.alloc (.cells #[.string t.s, .int .i64 t.x, .int .i64 t.y] 42)).cell? ⟨wr.heap.size, 1, none⟩ = some (.int .i64 t.x) ∧ (wr.alloc (.cells #[.string t.s, .int .i64 t.x, .int .i64 t.y] 42)).cell? ⟨wr.heap.size, 2, none⟩ = some (.int .i64 t.y)) := ⟨HI.out.1.alloc HI.out.1.size _, (Below.heap_alloc _ _ _ hzw).trans HI.out.2, by simp only [World.cell?, hbxN]; rfl, by simp only [World.cell?, hbxN]; rfl, by simp only [World.cell?, hbxN]; rfl⟩
      clear hbxN
      go_wp2
      generalize wr.alloc (.cells #[.string t.s, .int .i64 t.x, .int .i64 t.y] 42) = wy at *
      generalize wr.heap.size = X at *
      obtain ⟨c0, c1, c2⟩ := HNW.out.2.2
      have zc := lt_of_cell c0
      have hx0 := HLO.out.x0; have hx1 := HLO.out.x1; have hy0 := HLO.out.y0; have hy1 := HLO.out.y1
      have GO : Hid (∀ (x : Later wy) (n : Int), 0 ≤ n → n < 10000000 → Calls Tryz.prog 19 #[.int .i64 n] x.val fun e w'' => e = .returned (.string (decS n.toNat)) ∧ ∃ y : Later wy, w'' = y.val) := fun x n h0 h1 => Calls.later (by
        have h := l2Dec_any n.toNat (by omega) x.val
        rw [Int.toNat_of_nonneg h0] at h
        exact h)
      have hne := Later.some wy
      refine wp_region_later (by kernel_rfl) (by kernel_rfl) ?_
      repeat (go_big_quiet_step (exact GO.out _ _ (by assumption) (by assumption)))
      refine wpQuiet_nil ?_
      rintro _ ⟨x, rfl⟩
      have HI2 : Hid (Below w.heap.size w x.val ∧ x.val.heap[w.heap.size]? = some bx) := ⟨below_step HNW.out.1 x.below, (x.below.block _ (Array.getElem?_eq_some_iff.1 HNW.out.2.1).1).trans HNW.out.2.1⟩
      clear HNW c0 c1 c2 zc GO d0 d1 d2 y0 y1 y2
      go_wp2
      exact ⟨⟨k + 1, _, by omega, by go_num, rfl, HZN, HI2⟩, by simp [intOf]; omega⟩
    · have HZ1 : Hid (z = ofL (ks.map (namedS wKind))) := by
        have := HZ.out
        rw [List.take_of_length_le (by omega)] at this
        exact this
      have HI1 : Hid (Below w.heap.size w wr ∧ wr.heap[w.heap.size]? = some bx) := HI.out
      clear HI HZ
      go_wp2
      clear y0 y1 y2
      go_loopw [3, 6, 7] (fun o i _ wr => ∃ (k : Nat) (z : ByteArray), k ≤ ps.length ∧ i = .int .i64 k ∧ o = .string z ∧ Hid (z = ofL (ks.map (namedS wKind) ++ (ps.take k).map (namedS wPoint))) ∧ Hid (Below w.heap.size w wr ∧ wr.heap[w.heap.size]? = some bx)) (fun _ i _ _ => ps.length - (intOf i).toNat)
      case atStart => exact ⟨0, _, Nat.zero_le _, rfl, rfl, toHidQ (by simpa using HZ1.out), HI1⟩
      case round =>
        clear HI1 HZ1
        obtain ⟨k, z, hk, rfl, rfl, HZ, HI⟩ := hrel
        have y0 : wr.cell? ⟨w.heap.size, 0, none⟩ = some (.slice ak ks.length ck) := by have h := HI.out.2; rw [HBE.out] at h; simp [World.cell?, h]
        have y1 : wr.cell? ⟨w.heap.size, 1, none⟩ = some (.slice ap ps.length cp) := by have h := HI.out.2; rw [HBE.out] at h; simp [World.cell?, h]
        have y2 : wr.cell? ⟨w.heap.size, 2, none⟩ = some (.slice ae es.length ce) := by have h := HI.out.2; rw [HBE.out] at h; simp [World.cell?, h]
        have hzw : w.heap.size < wr.heap.size := (Array.getElem?_eq_some_iff.1 HI.out.2).1
        by_cases hlt : k < ps.length
        · obtain ⟨b, off, hab, hc⟩ := HPA.out k _ (at_get hlt)
          obtain ⟨d0, d1, d2⟩ := hc.keep HI.out.1 (Nat.le_refl _)
          have HLO : Hid (LineOk (at' ps k)) := HLP.out k hlt
          have hzs : z.size ≤ 70368744177664 := by
            rw [HZ.out, ofL_size]
            have h := HTOT.out
            have e : linesB ks ps (chgsOf es) = (ks.map (namedS wKind) ++ (ps.take k).map (namedS wPoint)) ++ ((ps.drop k).map (namedS wPoint) ++ ((chgsOf es).map theForm)) := by
              have h2 : ps.map (namedS wPoint) = (ps.take k).map (namedS wPoint) ++ (ps.drop k).map (namedS wPoint) := by rw [← List.map_append, List.take_append_drop]
              simp only [linesB, linesK, linesP, linesC, List.append_assoc]
              rw [h2]
              simp only [List.append_assoc]
            rw [e, joinL_append, List.length_append] at h
            omega
          have HZN : Hid (stepT sPointSp z (at' ps k) = ofL (ks.map (namedS wKind) ++ (ps.take (k + 1)).map (namedS wPoint))) := by
            show _ = _
            rw [HZ.out, stepP_eq, mapTake _ ps k _ (at_get hlt)]
            simp
          clear HZ
          generalize at' ps k = t at *
          obtain rfl := hab
          clear hc
          obtain ⟨s0, s1, s2, s3, s4, s5, s6, s7, s8, s9, sA, sB, sC⟩ := Smalls3.of (word := sPointSp) (out := z) (t := t) (by decide) hzs HLO.out
          simp only [sSp, sPointSp, sNl] at s0 s1 s2 s3 s4 s5 s6 s7 s8 s9 sA sB sC
          have hk0 : (0 : Int) ≤ (k : Int) := by omega
          have hk1 : (k : Int) < (ps.length : Int) := by omega
          have hbxN : (wr.alloc (.cells #[.string t.s, .int .i64 t.x, .int .i64 t.y] 57)).heap[wr.heap.size]? = some (.cells #[.string t.s, .int .i64 t.x, .int .i64 t.y] 57) := by show (wr.heap.push _)[wr.heap.size]? = _; simp
          have HNW : Hid (Below w.heap.size w (wr.alloc (.cells #[.string t.s, .int .i64 t.x, .int .i64 t.y] 57)) ∧ (wr.alloc (.cells #[.string t.s, .int .i64 t.x, .int .i64 t.y] 57)).heap[w.heap.size]? = some bx ∧ (wr.alloc (.cells #[.string t.s, .int .i64 t.x, .int .i64 t.y] 57)).cell? ⟨wr.heap.size, 0, none⟩ = some (.string t.s) ∧ (wr.alloc (.cells #[.string t.s, .int .i64 t.x, .int .i64 t.y] 57)).cell? ⟨wr.heap.size, 1, none⟩ = some (.int .i64 t.x) ∧ (wr.alloc (.cells #[.string t.s, .int .i64 t.x, .int .i64 t.y] 57)).cell? ⟨wr.heap.size, 2, none⟩ = some (.int .i64 t.y)) := ⟨HI.out.1.alloc HI.out.1.size _, (Below.heap_alloc _ _ _ hzw).trans HI.out.2, by simp only [World.cell?, hbxN]; rfl, by simp only [World.cell?, hbxN]; rfl, by simp only [World.cell?, hbxN]; rfl⟩
          clear hbxN
          go_wp2
          generalize wr.alloc (.cells #[.string t.s, .int .i64 t.x, .int .i64 t.y] 57) = wy at *
          generalize wr.heap.size = X at *
          obtain ⟨c0, c1, c2⟩ := HNW.out.2.2
          have zc := lt_of_cell c0
          have hx0 := HLO.out.x0; have hx1 := HLO.out.x1; have hy0 := HLO.out.y0; have hy1 := HLO.out.y1
          have GO : Hid (∀ (x : Later wy) (n : Int), 0 ≤ n → n < 10000000 → Calls Tryz.prog 19 #[.int .i64 n] x.val fun e w'' => e = .returned (.string (decS n.toNat)) ∧ ∃ y : Later wy, w'' = y.val) := fun x n h0 h1 => Calls.later (by
            have h := l2Dec_any n.toNat (by omega) x.val
            rw [Int.toNat_of_nonneg h0] at h
            exact h)
          have hne := Later.some wy
          refine wp_region_later (by kernel_rfl) (by kernel_rfl) ?_
          repeat (go_big_quiet_step (exact GO.out _ _ (by assumption) (by assumption)))
          refine wpQuiet_nil ?_
          rintro _ ⟨x, rfl⟩
          have HI2 : Hid (Below w.heap.size w x.val ∧ x.val.heap[w.heap.size]? = some bx) := ⟨below_step HNW.out.1 x.below, (x.below.block _ (Array.getElem?_eq_some_iff.1 HNW.out.2.1).1).trans HNW.out.2.1⟩
          clear HNW c0 c1 c2 zc GO d0 d1 d2 y0 y1 y2
          go_wp2
          exact ⟨⟨k + 1, _, by omega, by go_num, rfl, HZN, HI2⟩, by simp [intOf]; omega⟩
        · have HZ1 : Hid (z = ofL (ks.map (namedS wKind) ++ ps.map (namedS wPoint))) := by
            have := HZ.out
            rw [List.take_of_length_le (by omega)] at this
            exact this
          have HI1 : Hid (Below w.heap.size w wr ∧ wr.heap[w.heap.size]? = some bx) := HI.out
          clear HI HZ
          go_wp2
          clear y0 y1 y2
          go_loopw [3, 8, 9, 10] (fun o i _ _ wr => ∃ (k : Nat) (z : ByteArray), k ≤ es.length ∧ i = .int .i64 k ∧ o = .string z ∧ Hid (z = ofL (ks.map (namedS wKind) ++ ps.map (namedS wPoint) ++ (chgsOf (es.take k)).map theForm)) ∧ Hid (Below w.heap.size w wr ∧ wr.heap[w.heap.size]? = some bx)) (fun _ i _ _ _ => es.length - (intOf i).toNat)
          case atStart => exact ⟨0, _, Nat.zero_le _, rfl, rfl, toHidQ (by simpa [chgsOf] using HZ1.out), HI1⟩
          case round =>
            clear HI1 HZ1
            obtain ⟨k, z, hk, rfl, rfl, HZ, HI⟩ := hrel
            have y0 : wr.cell? ⟨w.heap.size, 0, none⟩ = some (.slice ak ks.length ck) := by have h := HI.out.2; rw [HBE.out] at h; simp [World.cell?, h]
            have y1 : wr.cell? ⟨w.heap.size, 1, none⟩ = some (.slice ap ps.length cp) := by have h := HI.out.2; rw [HBE.out] at h; simp [World.cell?, h]
            have y2 : wr.cell? ⟨w.heap.size, 2, none⟩ = some (.slice ae es.length ce) := by have h := HI.out.2; rw [HBE.out] at h; simp [World.cell?, h]
            have hzw : w.heap.size < wr.heap.size := (Array.getElem?_eq_some_iff.1 HI.out.2).1
            by_cases hlt : k < es.length
            · obtain ⟨b, off, hab, fv, e0', e1', hfl⟩ := HEA.out k _ (eat_get hlt)
              obtain ⟨fa, fc, rfl, hfc, hfm, hfe⟩ := hfl
              unfold maxLen at hfm
              have HEN : Hid (w.cell? ⟨b, off + k * 2, none⟩ = some (.string (eat es k).name) ∧ w.cell? ⟨b, off + k * 2 + 1, none⟩ = some (.slice fa (eat es k).fs.length fc)) := ⟨e0', e1'⟩
              have HFE : Hid (∀ i f, (eat es k).fs[i]? = some f → ∃ b off, fa = some ⟨b, off, none⟩ ∧ FldAt w b (off + i * 3) f) := hfe
              have HSF : Hid ((eat es k).name.size ≤ 1048576 ∧ ∀ f ∈ (eat es k).fs, f.v.size ≤ 1048576) := ⟨SB.out.n _ (List.mem_of_getElem? (eat_get hlt)), SB.out.v _ (List.mem_of_getElem? (eat_get hlt))⟩
              have HZE : Hid (ks.map (namedS wKind) ++ ps.map (namedS wPoint) ++ (chgsOf (es.take (k + 1))).map theForm = (ks.map (namedS wKind) ++ ps.map (namedS wPoint) ++ (chgsOf (es.take k)).map theForm) ++ ((eat es k).fs.map (chgOf (eat es k).name)).map theForm) := by
                show _ = _
                rw [chgsOf_take es k _ (eat_get hlt)]; simp
              have HFU : Hid (∃ R, linesB ks ps (chgsOf es) = (ks.map (namedS wKind) ++ ps.map (namedS wPoint) ++ (chgsOf (es.take k)).map theForm) ++ ((eat es k).fs.map (chgOf (eat es k).name)).map theForm ++ R) := ⟨(chgsOf (es.drop (k + 1))).map theForm, by
                simp only [linesB, linesK, linesP, linesC]
                rw [chgs_split es (k + 1), chgsOf_take es k _ (eat_get hlt)]
                simp only [List.map_append, List.append_assoc]⟩
              clear hfe e0' e1'
              generalize eat es k = en at *
              obtain ⟨nm, fs⟩ := en
              dsimp only at *
              generalize hPR : ks.map (namedS wKind) ++ ps.map (namedS wPoint) ++ (chgsOf (es.take k)).map theForm = PR at *
              obtain rfl := hab
              clear hPR
              obtain ⟨d0, d1⟩ : wr.cell? ⟨b, off + k * 2, none⟩ = some (.string nm) ∧ wr.cell? ⟨b, off + k * 2 + 1, none⟩ = some (.slice fa fs.length fc) := ⟨cell_keep HI.out.1 (Nat.le_refl _) HEN.out.1, cell_keep HI.out.1 (Nat.le_refl _) HEN.out.2⟩
              have hk0 : (0 : Int) ≤ (k : Int) := by omega
              have hk1 : (k : Int) < (es.length : Int) := by omega
              have HI3 : Hid (Below w.heap.size w wr ∧ wr.heap[w.heap.size]? = some bx) := HI.out
              clear HI
              go_wp2
              clear y0 y1 y2 d0 d1
              go_loopw [3, 9, 10] (fun o i _ wx => ∃ (j : Nat) (z : ByteArray), j ≤ fs.length ∧ i = .int .i64 j ∧ o = .string z ∧ Hid (z = ofL (PR ++ ((fs.take j).map (chgOf nm)).map theForm)) ∧ Hid (Below w.heap.size w wx ∧ wx.heap[w.heap.size]? = some bx)) (fun _ i _ _ => fs.length - (intOf i).toNat)
              case atStart => exact ⟨0, _, Nat.zero_le _, rfl, rfl, toHidQ (by simpa using HZ.out), HI3⟩
              case round =>
                clear HI3 HZ hzw
                obtain ⟨j, z, hj, rfl, rfl, HZ, HI⟩ := hrel
                obtain ⟨y0, y1, y2⟩ : wr.cell? ⟨w.heap.size, 0, none⟩ = some (.slice ak ks.length ck) ∧ wr.cell? ⟨w.heap.size, 1, none⟩ = some (.slice ap ps.length cp) ∧ wr.cell? ⟨w.heap.size, 2, none⟩ = some (.slice (some ⟨b, off, none⟩) es.length ce) := by have h := HI.out.2; rw [HBE.out] at h; exact ⟨by simp [World.cell?, h], by simp [World.cell?, h], by simp [World.cell?, h]⟩
                obtain ⟨d0, d1⟩ : wr.cell? ⟨b, off + k * 2, none⟩ = some (.string nm) ∧ wr.cell? ⟨b, off + k * 2 + 1, none⟩ = some (.slice fa fs.length fc) := ⟨cell_keep HI.out.1 (Nat.le_refl _) HEN.out.1, cell_keep HI.out.1 (Nat.le_refl _) HEN.out.2⟩
                have hzw : w.heap.size < wr.heap.size := (Array.getElem?_eq_some_iff.1 HI.out.2).1
                by_cases hjl : j < fs.length
                · obtain ⟨fb, fo, hfb, hf⟩ := HFE.out j _ (fat_get hjl)
                  obtain ⟨g0, g1, g2⟩ : FldAt wr fb (fo + j * 3) (fat fs j) := ⟨cell_keep HI.out.1 (Nat.le_refl _) hf.1, cell_keep HI.out.1 (Nat.le_refl _) hf.2.1, cell_keep HI.out.1 (Nat.le_refl _) hf.2.2⟩
                  have hvs : (fat fs j).v.size ≤ 1048576 := HSF.out.2 _ (List.mem_of_getElem? (fat_get hjl))
                  have hns : nm.size ≤ 1048576 := HSF.out.1
                  have hzs : z.size ≤ 70368744177664 := by
                    obtain ⟨R, hR⟩ := HFU.out
                    have h2 : fs.map (chgOf nm) = (fs.take j).map (chgOf nm) ++ (fs.drop j).map (chgOf nm) := by rw [← List.map_append, List.take_append_drop]
                    rw [HZ.out]
                    exact pre_small (R := ((fs.drop j).map (chgOf nm)).map theForm ++ R) HTOT.out (by rw [hR, h2]; simp only [List.map_append, List.append_assoc])
                  have HZN : Hid (stepC z (chgOf nm (fat fs j)) = ofL (PR ++ ((fs.take (j + 1)).map (chgOf nm)).map theForm)) := by
                    show _ = _
                    rw [HZ.out, stepC_eq, mapTake _ fs j _ (fat_get hjl)]
                    simp
                  clear HZ hf
                  generalize fat fs j = t at *
                  obtain rfl := hfb
                  have hfs := theForm_size (c := chgOf nm t) hns hvs
                  obtain ⟨s0, s1, s2, s3⟩ := small_c hzs hfs
                  simp only [sNl] at s3
                  have hj0 : (0 : Int) ≤ (j : Int) := by omega
                  have hj1 : (j : Int) < (fs.length : Int) := by omega
                  have hbxN : (wr.alloc (.cells #[.int .i64 t.what, .int .i64 t.num, .string t.v] 62)).heap[wr.heap.size]? = some (.cells #[.int .i64 t.what, .int .i64 t.num, .string t.v] 62) := by show (wr.heap.push _)[wr.heap.size]? = _; simp
                  have HNW : Hid ((Below w.heap.size w (wr.alloc (.cells #[.int .i64 t.what, .int .i64 t.num, .string t.v] 62)) ∧ (wr.alloc (.cells #[.int .i64 t.what, .int .i64 t.num, .string t.v] 62)).heap[w.heap.size]? = some bx) ∧ ((wr.alloc (.cells #[.int .i64 t.what, .int .i64 t.num, .string t.v] 62)).cell? ⟨wr.heap.size, 0, none⟩ = some (.int .i64 t.what) ∧ (wr.alloc (.cells #[.int .i64 t.what, .int .i64 t.num, .string t.v] 62)).cell? ⟨wr.heap.size, 1, none⟩ = some (.int .i64 t.num) ∧ (wr.alloc (.cells #[.int .i64 t.what, .int .i64 t.num, .string t.v] 62)).cell? ⟨wr.heap.size, 2, none⟩ = some (.string t.v)) ∧ Below wr.heap.size wr (wr.alloc (.cells #[.int .i64 t.what, .int .i64 t.num, .string t.v] 62))) := ⟨⟨HI.out.1.alloc HI.out.1.size _, (Below.heap_alloc _ _ _ hzw).trans HI.out.2⟩, ⟨by simp only [World.cell?, hbxN]; rfl, by simp only [World.cell?, hbxN]; rfl, by simp only [World.cell?, hbxN]; rfl⟩, (Below.refl _ _).alloc (Nat.le_refl _) _⟩
                  clear hbxN
                  go_wp2
                  obtain ⟨a2, b0⟩ : (wr.alloc (.cells #[.int .i64 t.what, .int .i64 t.num, .string t.v] 62)).cell? ⟨w.heap.size, 2, none⟩ = some (.slice (some ⟨b, off, none⟩) es.length ce) ∧ (wr.alloc (.cells #[.int .i64 t.what, .int .i64 t.num, .string t.v] 62)).cell? ⟨b, off + k * 2, none⟩ = some (.string nm) := ⟨cell_keep HNW.out.2.2 (Nat.le_refl _) y2, cell_keep HNW.out.2.2 (Nat.le_refl _) d0⟩
                  obtain ⟨a0, a1, b1⟩ : (wr.alloc (.cells #[.int .i64 t.what, .int .i64 t.num, .string t.v] 62)).cell? ⟨w.heap.size, 0, none⟩ = some (.slice ak ks.length ck) ∧ (wr.alloc (.cells #[.int .i64 t.what, .int .i64 t.num, .string t.v] 62)).cell? ⟨w.heap.size, 1, none⟩ = some (.slice ap ps.length cp) ∧ (wr.alloc (.cells #[.int .i64 t.what, .int .i64 t.num, .string t.v] 62)).cell? ⟨b, off + k * 2 + 1, none⟩ = some (.slice (some ⟨fb, fo, none⟩) fs.length fc) := ⟨cell_keep HNW.out.2.2 (Nat.le_refl _) y0, cell_keep HNW.out.2.2 (Nat.le_refl _) y1, cell_keep HNW.out.2.2 (Nat.le_refl _) d1⟩
                  have HNY : Hid ((Below w.heap.size w (wr.alloc (.cells #[.int .i64 t.what, .int .i64 t.num, .string t.v] 62)) ∧ (wr.alloc (.cells #[.int .i64 t.what, .int .i64 t.num, .string t.v] 62)).heap[w.heap.size]? = some bx)) := HNW.out.1
                  obtain ⟨c0, c1, c2⟩ := HNW.out.2.1
                  clear HNW y0 y1 y2 d0 d1 g0 g1 g2 HI
                  generalize wr.alloc (.cells #[.int .i64 t.what, .int .i64 t.num, .string t.v] 62) = wy at *
                  generalize wr.heap.size = X at *
                  have zc := lt_of_cell c0
                  have zb := lt_of_cell b0
                  have za := lt_of_cell a0
                  have GO : Hid (∀ x : Later wy, Calls Tryz.prog 20 #[.agg #[.string nm, .int .i64 t.what, .int .i64 t.num, .string t.v]] x.val fun e w'' => e = .returned (.string (theForm (chgOf nm t))) ∧ ∃ y : Later wy, w'' = y.val) := fun x => Calls.later (specForm_any (chgOf nm t) x.val hns hvs)
                  have hne := Later.some wy
                  refine wp_region_later (by kernel_rfl) (by kernel_rfl) ?_
                  repeat (go_big_quiet_step (exact GO.out _))
                  refine wpQuiet_nil ?_
                  rintro _ ⟨x, rfl⟩
                  have HI2 : Hid (Below w.heap.size w x.val ∧ x.val.heap[w.heap.size]? = some bx) := ⟨below_step HNY.out.1 x.below, (x.below.block _ (Array.getElem?_eq_some_iff.1 HNY.out.2).1).trans HNY.out.2⟩
                  clear HNY c0 c1 c2 a0 a1 a2 b0 b1 zc zb za GO
                  go_wp2
                  exact ⟨⟨j + 1, _, by omega, by go_num, rfl, HZN, HI2⟩, by simp [intOf]; omega⟩
                · have HZ1 : Hid (z = ofL (ks.map (namedS wKind) ++ ps.map (namedS wPoint) ++ (chgsOf (es.take (k + 1))).map theForm)) := by
                    have := HZ.out
                    rw [List.take_of_length_le (by omega)] at this
                    show _ = _
                    rw [HZE.out]
                    exact this
                  clear HZ
                  go_wp2
                  exact ⟨⟨k + 1, _, by omega, by go_num, rfl, HZ1, HI⟩, by simp [intOf]; omega⟩
            · have HZ1 : Hid (z = printS ks ps es) := by
                have := HZ.out
                rw [List.take_of_length_le (by omega)] at this
                show _ = _
                rw [HE.out]
                exact this
              go_wp2
              go_ret
              exact ⟨ret_str HZ1.out, HI.out.1⟩
end Go.Proofs.YtfjblenkcfdbiaaGreatDoor
