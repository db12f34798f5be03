/-
  For the proof of print_card: part 5 (Book4, Dec, Cut, Words, Bl, FitsB).
-/
import Derived.Test.YthccipaobeapbabGreatDoorRowPrintJ4
/-
  Books: sizes, copies, comparisons.
-/
namespace Go.Proofs.YthccipaobeapbabGreatDoor
open Go.RowKit

/-- A book that lies in memory. -/
structure BookAt (w : World) (vk vp ve : Value) (ks ps : List Tri) (es : List Ent) : Prop where
  k : TrisAt w vk ks
  p : TrisAt w vp ps
  e : EntsAt w ve es
theorem BookAt.keep {w w' : World} {vk vp ve : Value} {ks ps : List Tri} {es : List Ent} (h : BookAt w vk vp ve ks ps es) (hb : Below w.heap.size w w') : BookAt w' vk vp ve ks ps es := ⟨h.k.keep hb, h.p.keep hb, h.e.keep hb⟩
structure BNames (ks ps : List Tri) (es : List Ent) : Prop where
  k : Names ks
  p : Names ps
  e : ENames es
/-- .. in blocks of its own. -/
structure BookOwn (lo : Nat) (w : World) (vk vp ve : Value) (ks ps : List Tri) (es : List Ent) : Prop where
  k : TrisOwn lo w vk ks
  p : TrisOwn lo w vp ps
  e : EntsOwn lo w ve es
  d : ∀ b n c b' n' c', vk = .slice (some ⟨b, 0, none⟩) n c ∨ vp = .slice (some ⟨b, 0, none⟩) n c → ve = .slice (some ⟨b', 0, none⟩) n' c' → b ≠ b'
theorem BookOwn.keep {lo : Nat} {w w' : World} {vk vp ve : Value} {ks ps : List Tri} {es : List Ent} (h : BookOwn lo w vk vp ve ks ps es) (hb : Below w.heap.size w w') : BookOwn lo w' vk vp ve ks ps es := ⟨h.k.keep hb, h.p.keep hb, h.e.keep hb, h.d⟩
def szBook (ks ps : List Tri) (es : List Ent) : Nat := szTris ks + szTris ps + szEnts es
/-- A book that is not too great: so its lists are not. -/
structure BSmall (ks ps : List Tri) (es : List Ent) : Prop where
  k : ks.length ≤ 1048576
  p : ps.length ≤ 1048576
  e : es.length ≤ 1048576
  f : ∀ e ∈ es, e.fs.length ≤ 1048576
  n : ∀ e ∈ es, e.name.size ≤ 1048576
  v : ∀ e ∈ es, ∀ f ∈ e.fs, f.v.size ≤ 1048576
theorem BSmall.of {ks ps : List Tri} {es : List Ent} (h : szBook ks ps es ≤ 1048576) : BSmall ks ps es := by
  unfold szBook szTris szEnts at h
  have one : ∀ e ∈ es, szEnt e ≤ 1048576 := fun e he => by have := sumN_mem szEnt es e he; omega
  refine ⟨by omega, by omega, by omega, fun e he => ?_, fun e he => ?_, fun e he f hf => ?_⟩
  · have := one e he; unfold szEnt szFlds at this; omega
  · have := one e he; unfold szEnt szFlds at this; omega
  · have := one e he; unfold szEnt szFlds at this; have h2 : f.v.size ≤ _ := sumN_mem (fun f : Fld => f.v.size) e.fs f hf; omega
theorem BookOwn.at {lo : Nat} {w : World} {vk vp ve : Value} {ks ps : List Tri} {es : List Ent} (h : BookOwn lo w vk vp ve ks ps es) (hs : BSmall ks ps es) : BookAt w vk vp ve ks ps es := ⟨h.k.at hs.k, h.p.at hs.p, h.e.at hs.e hs.f⟩

set_option maxHeartbeats 800000 in
theorem szBook_any (vk vp ve : Value) (ks ps : List Tri) (es : List Ent) (left : Int) (w : World) (hB : BookAt w vk vp ve ks ps es) (nB : BNames ks ps es) (hl : 0 ≤ left) (hl' : left ≤ 1048576) :
    Calls Tryz.prog 13 #[.agg #[vk, vp, ve], .int .i64 left] w fun e w' => e = .returned (.int .i64 (szR (szBook ks ps es) left)) ∧ Below w.heap.size w w' := by
  have HB : Hid (BookAt w vk vp ve ks ps es) := hB
  have NB : Hid (BNames ks ps es) := nB
  obtain ⟨⟨ak, ck, rfl, -, -, -⟩, ⟨ap, cp, rfl, -, -, -⟩, ⟨ae, ce, rfl, -, -, -⟩⟩ := hB
  have HZ : Hid (szBook ks ps es = szTris ks + szTris ps + szEnts es) := rfl
  have HX0 : Hid (OwnAt w (w.alloc (.cells #[.slice ak ks.length ck, .slice ap ps.length cp, .slice ae es.length ce] 43)) [[.slice ak ks.length ck, .slice ap ps.length cp, .slice ae es.length ce]]) := (OwnAt.start w).push rfl _ _
  clear nB
  go_enter Tryz.func13, Tryz.ntmps13
  go_wp2_with fail
  refine (szBase_any _ _ ks ps left _ (HB.out.k.keep HX0.out.below) (HB.out.p.keep HX0.out.below) NB.out.k NB.out.p hl hl').mono ?_
  rintro e w1 ⟨rfl, hb1⟩
  have HX1 : Hid (OwnAt w w1 _) := HX0.out.call hb1
  clear HX0 hb1
  by_cases h1 : ((szTris ks + szTris ps : Nat) : Int) ≤ left
  · rw [szR_pos h1]
    have hge : 0 ≤ left - ((szTris ks + szTris ps : Nat) : Int) := by omega
    have hle : left - ((szTris ks + szTris ps : Nat) : Int) ≤ 1048576 := by omega
    have HR : Hid (szR (szEnts es) (left - ((szTris ks + szTris ps : Nat) : Int)) = szR (szBook ks ps es) left ∧ -1 ≤ szR (szBook ks ps es) left) := by
      refine ⟨?_, (szR_le _ _ hl).2⟩
      rw [HZ.out]; unfold szR; split <;> split <;> omega
    generalize left - ((szTris ks + szTris ps : Nat) : Int) = r at *
    have y0 : w1.cell? ⟨w.heap.size, 0, none⟩ = some (.slice ak ks.length ck) := (HX1.out.has 0 _ rfl 0 _ rfl).1
    have y1 : w1.cell? ⟨w.heap.size, 1, none⟩ = some (.slice ap ps.length cp) := (HX1.out.has 0 _ rfl 1 _ rfl).1
    have y2 : w1.cell? ⟨w.heap.size, 2, none⟩ = some (.slice ae es.length ce) := (HX1.out.has 0 _ rfl 2 _ rfl).1
    clear h1
    go_wp2_with fail
    refine (szEntries_any _ es r _ (HB.out.e.keep HX1.out.below) NB.out.e hge hle).mono ?_
    rintro e w2 ⟨rfl, hb2⟩
    rw [HR.out.1]
    have h3 := HR.out.2
    have HFIN : Hid (Below w.heap.size w w2 ∧ ∀ q : Int, q = szR (szBook ks ps es) left → Ending.returned (.int .i64 q) = .returned (.int .i64 (szR (szBook ks ps es) left))) := ⟨below_step HX1.out.below hb2, fun q hq => by rw [hq]⟩
    generalize hq : szR (szBook ks ps es) left = q at *
    have HQ : Hid (szR (szBook ks ps es) left = q) := hq
    clear hq hb2
    by_cases h4 : q < 0
    · obtain rfl : q = -1 := by omega
      go_wp2
      go_ret
      exact ⟨ret_int HQ.out.symm, HFIN.out.1⟩
    · go_wp2
      go_ret
      exact ⟨ret_int HQ.out.symm, HFIN.out.1⟩
  · rw [szR_neg h1]
    have HQ : Hid (szR (szBook ks ps es) left = -1) := szR_neg (by rw [HZ.out]; omega)
    clear h1
    go_wp2
    go_ret
    exact ⟨ret_int HQ.out.symm, HX1.out.below⟩

set_option maxHeartbeats 800000 in
theorem eqBook_any (vk vp ve uk up ue : Value) (ks ps : List Tri) (es : List Ent) (w : World) (hB : BookAt w vk vp ve ks ps es) (hB' : BookAt w uk up ue ks ps es) :
    Calls Tryz.prog 9 #[.agg #[vk, vp, ve], .agg #[uk, up, ue]] w fun e w' => e = .returned (.bool true) ∧ Below w.heap.size w w' := by
  have HB : Hid (BookAt w vk vp ve ks ps es ∧ BookAt w uk up ue ks ps es) := ⟨hB, hB'⟩
  obtain ⟨⟨ak, ck, rfl, -, -, -⟩, ⟨ap, cp, rfl, -, -, -⟩, ⟨ae, ce, rfl, -, -, -⟩⟩ := hB
  obtain ⟨⟨ak', ck', rfl, -, -, -⟩, ⟨ap', cp', rfl, -, -, -⟩, ⟨ae', ce', rfl, -, -, -⟩⟩ := hB'
  have HX0 : Hid (OwnAt w ((w.alloc (.cells #[.slice ak ks.length ck, .slice ap ps.length cp, .slice ae es.length ce] 28)).alloc (.cells #[.slice ak' ks.length ck', .slice ap' ps.length cp', .slice ae' es.length ce'] 28)) [[.slice ak ks.length ck, .slice ap ps.length cp, .slice ae es.length ce], [.slice ak' ks.length ck', .slice ap' ps.length cp', .slice ae' es.length ce']]) := ((OwnAt.start w).push rfl _ _).push (by simp) _ _
  go_enter Tryz.func9, Tryz.ntmps9
  go_wp2_with fail
  refine (eqBase_any _ _ _ _ ks ps _ (HB.out.1.k.keep HX0.out.below) (HB.out.1.p.keep HX0.out.below) (HB.out.2.k.keep HX0.out.below) (HB.out.2.p.keep HX0.out.below)).mono ?_
  rintro e w1 ⟨rfl, hb1⟩
  have HX1 : Hid (OwnAt w w1 _) := HX0.out.call hb1
  clear HX0 hb1
  have y0 : w1.cell? ⟨w.heap.size, 0, none⟩ = some (.slice ak ks.length ck) := (HX1.out.has 0 _ rfl 0 _ rfl).1
  have y1 : w1.cell? ⟨w.heap.size, 1, none⟩ = some (.slice ap ps.length cp) := (HX1.out.has 0 _ rfl 1 _ rfl).1
  have y2 : w1.cell? ⟨w.heap.size, 2, none⟩ = some (.slice ae es.length ce) := (HX1.out.has 0 _ rfl 2 _ rfl).1
  have z0 : w1.cell? ⟨w.heap.size + 1, 0, none⟩ = some (.slice ak' ks.length ck') := (HX1.out.has 1 _ rfl 0 _ rfl).1
  have z1 : w1.cell? ⟨w.heap.size + 1, 1, none⟩ = some (.slice ap' ps.length cp') := (HX1.out.has 1 _ rfl 1 _ rfl).1
  have z2 : w1.cell? ⟨w.heap.size + 1, 2, none⟩ = some (.slice ae' es.length ce') := (HX1.out.has 1 _ rfl 2 _ rfl).1
  go_wp2_with fail
  refine (eqEntries_any _ _ es _ (HB.out.1.e.keep HX1.out.below) (HB.out.2.e.keep HX1.out.below)).mono ?_
  rintro e w2 ⟨rfl, hb2⟩
  go_wp2
  go_ret
  exact ⟨rfl, below_step HX1.out.below hb2⟩

set_option maxHeartbeats 1600000 in
theorem toBook_own (vk vp ve : Value) (ks ps : List Tri) (es : List Ent) (w : World) (hB : BookAt w vk vp ve ks ps es) (sB : BSmall ks ps es) :
    Calls Tryz.prog 15 #[.agg #[vk, vp, ve]] w fun e w' => ∃ uk up ue, e = .returned (.agg #[uk, up, ue]) ∧ BookOwn (w.heap.size + 3) w' uk up ue ks ps es ∧ Below w.heap.size w w' := by
  have HB : Hid (BookAt w vk vp ve ks ps es) := hB
  have SB : Hid (BSmall ks ps es) := sB
  obtain ⟨⟨ak, ck, rfl, -, -, -⟩, ⟨ap, cp, rfl, -, -, -⟩, ⟨ae, ce, rfl, -, -, -⟩⟩ := hB
  have HO0 : Hid (OwnAt w (((w.alloc (.cells #[.slice ak ks.length ck, .slice ap ps.length cp, .slice ae es.length ce] 43)).alloc (.cells #[.slice none 0 0, .slice none 0 0, .slice none 0 0] 28)).alloc (.cells #[.slice none 0 0, .slice none 0 0, .slice none 0 0] 28)) [[.slice ak ks.length ck, .slice ap ps.length cp, .slice ae es.length ce], [.slice none 0 0, .slice none 0 0, .slice none 0 0], [.slice none 0 0, .slice none 0 0, .slice none 0 0]]) :=
    (((OwnAt.start w).push rfl _ _).push (by simp) _ _).push (by simp) _ _
  clear sB
  go_enter Tryz.func15, Tryz.ntmps15
  go_wp2_with fail
  refine (toBase_own _ _ ks ps _ (HB.out.k.keep HO0.out.below) (HB.out.p.keep HO0.out.below) SB.out.k SB.out.p).mono ?_
  rintro e w1 ⟨uk, up, rfl, tk, tp, hb1⟩
  have HO1 : Hid (OwnAt w w1 _) := HO0.out.call hb1
  simp only [World.size_alloc] at tk tp
  have HT1 : Hid (TrisOwn (w.heap.size + 3) w1 uk ks ∧ TrisOwn (w.heap.size + 3) w1 up ps) := ⟨tk.mono (by omega), tp.mono (by omega)⟩
  obtain ⟨bk, -, hek, hbk⟩ := tk
  obtain ⟨bp, -, hep, hbp⟩ := tp
  subst hek hep
  have HBIG : Hid (bk < w1.heap.size ∧ bp < w1.heap.size) := ⟨hbk.big, hbp.big⟩
  clear hbk hbp
  clear HO0 hb1
  have HO2 : Hid (OwnAt w ((w1.setCell ⟨w.heap.size + 1 + 1, 0, none⟩ (.slice (some ⟨bk, 0, none⟩) ks.length ks.length)).setCell ⟨w.heap.size + 1 + 1, 1, none⟩ (.slice (some ⟨bp, 0, none⟩) ps.length ps.length)) [[.slice ak ks.length ck, .slice ap ps.length cp, .slice ae es.length ce], [.slice none 0 0, .slice none 0 0, .slice none 0 0], [.slice (some ⟨bk, 0, none⟩) ks.length ks.length, .slice (some ⟨bp, 0, none⟩) ps.length ps.length, .slice none 0 0]]) :=
    (HO1.out.set (i := 2) (j := 0) rfl (by simp) _).set (i := 2) (j := 1) rfl (by simp) _
  have HT2 : Hid (TrisOwn (w.heap.size + 3) ((w1.setCell ⟨w.heap.size + 1 + 1, 0, none⟩ (.slice (some ⟨bk, 0, none⟩) ks.length ks.length)).setCell ⟨w.heap.size + 1 + 1, 1, none⟩ (.slice (some ⟨bp, 0, none⟩) ps.length ps.length)) (.slice (some ⟨bk, 0, none⟩) ks.length ks.length) ks ∧ TrisOwn (w.heap.size + 3) ((w1.setCell ⟨w.heap.size + 1 + 1, 0, none⟩ (.slice (some ⟨bk, 0, none⟩) ks.length ks.length)).setCell ⟨w.heap.size + 1 + 1, 1, none⟩ (.slice (some ⟨bp, 0, none⟩) ps.length ps.length)) (.slice (some ⟨bp, 0, none⟩) ps.length ps.length) ps) :=
    ⟨(HT1.out.1.other (by omega) _).other (by omega) _, (HT1.out.2.other (by omega) _).other (by omega) _⟩
  have d0 : w1.cell? ⟨w.heap.size, 0, none⟩ = some (.slice ak ks.length ck) := (HO1.out.has 0 _ rfl 0 _ rfl).1
  have d1 : w1.cell? ⟨w.heap.size, 1, none⟩ = some (.slice ap ps.length cp) := (HO1.out.has 0 _ rfl 1 _ rfl).1
  have d2 : w1.cell? ⟨w.heap.size, 2, none⟩ = some (.slice ae es.length ce) := (HO1.out.has 0 _ rfl 2 _ rfl).1
  have o0 : w1.cell? ⟨w.heap.size + 1 + 1, 0, none⟩ = some (.slice none 0 0) := (HO1.out.has 2 _ rfl 0 _ rfl).1
  have o1 : w1.cell? ⟨w.heap.size + 1 + 1, 1, none⟩ = some (.slice none 0 0) := (HO1.out.has 2 _ rfl 1 _ rfl).1
  have o2 : w1.cell? ⟨w.heap.size + 1 + 1, 2, none⟩ = some (.slice none 0 0) := (HO1.out.has 2 _ rfl 2 _ rfl).1
  have f0 : w1.frozen? ⟨w.heap.size + 1 + 1, 0, none⟩ = false := (HO1.out.has 2 _ rfl 0 _ rfl).2
  have f1 : w1.frozen? ⟨w.heap.size + 1 + 1, 1, none⟩ = false := (HO1.out.has 2 _ rfl 1 _ rfl).2
  go_wp2_with fail
  refine (toEntries_own _ es _ (HB.out.e.keep HO2.out.below) SB.out.e SB.out.f).mono ?_
  rintro e w2 ⟨ue, rfl, te, hb2⟩
  have HO3 : Hid (OwnAt w w2 _) := HO2.out.call hb2
  have hlo := HO2.out.big
  have HT3 : Hid (TrisOwn (w.heap.size + 3) w2 _ ks ∧ TrisOwn (w.heap.size + 3) w2 _ ps ∧ EntsOwn (w.heap.size + 3) w2 ue es) := ⟨HT2.out.1.keep hb2, HT2.out.2.keep hb2, te.mono hlo⟩
  obtain ⟨be, rows, hbe, hee, -, -, -⟩ := te
  have HSEP : Hid (bk ≠ be ∧ bp ≠ be) := by
    have h1 := HBIG.out.1
    have h2 := HBIG.out.2
    simp at hbe
    exact ⟨by omega, by omega⟩
  clear hbe
  subst hee
  clear HO2 HT2 HO1 HT1 d0 d1 d2 o0 o1 o2 f0 f1 hlo hb2
  have q0 : w2.cell? ⟨w.heap.size + 1, 0, none⟩ = some (.slice none 0 0) := (HO3.out.has 1 _ rfl 0 _ rfl).1
  have q1 : w2.cell? ⟨w.heap.size + 1, 1, none⟩ = some (.slice none 0 0) := (HO3.out.has 1 _ rfl 1 _ rfl).1
  have q2 : w2.cell? ⟨w.heap.size + 1, 2, none⟩ = some (.slice none 0 0) := (HO3.out.has 1 _ rfl 2 _ rfl).1
  have p0 : w2.cell? ⟨w.heap.size + 1 + 1, 0, none⟩ = some (.slice (some ⟨bk, 0, none⟩) ks.length ks.length) := (HO3.out.has 2 _ rfl 0 _ rfl).1
  have p1 : w2.cell? ⟨w.heap.size + 1 + 1, 1, none⟩ = some (.slice (some ⟨bp, 0, none⟩) ps.length ps.length) := (HO3.out.has 2 _ rfl 1 _ rfl).1
  have p2 : w2.cell? ⟨w.heap.size + 1 + 1, 2, none⟩ = some (.slice none 0 0) := (HO3.out.has 2 _ rfl 2 _ rfl).1
  have g0 : w2.frozen? ⟨w.heap.size + 1, 0, none⟩ = false := (HO3.out.has 1 _ rfl 0 _ rfl).2
  have g1 : w2.frozen? ⟨w.heap.size + 1, 1, none⟩ = false := (HO3.out.has 1 _ rfl 1 _ rfl).2
  have g2 : w2.frozen? ⟨w.heap.size + 1, 2, none⟩ = false := (HO3.out.has 1 _ rfl 2 _ rfl).2
  have g3 : w2.frozen? ⟨w.heap.size + 1 + 1, 2, none⟩ = false := (HO3.out.has 2 _ rfl 2 _ rfl).2
  go_wp2
  refine bodyPost_ret (v := .agg #[.slice (some ⟨bk, 0, none⟩) ks.length ks.length, .slice (some ⟨bp, 0, none⟩) ps.length ps.length, .slice (some ⟨be, 0, none⟩) es.length es.length]) (by simp [results, Tryz.results15, go_sem, *]) rfl ⟨_, _, _, rfl, ⟨(((HT3.out.1.other (by omega) _).other (by omega) _).other (by omega) _).other (by omega) _, (((HT3.out.2.1.other (by omega) _).other (by omega) _).other (by omega) _).other (by omega) _, (((HT3.out.2.2.other (by omega) _).other (by omega) _).other (by omega) _).other (by omega) _, fun b n c b' n' c' h1 h2 => by
    cases h2
    rcases h1 with h1 | h1 <;> cases h1
    · exact HSEP.out.1
    · exact HSEP.out.2⟩, ?_⟩
  exact below_set (below_set (below_set (below_set HO3.out.below _ _ (by omega) _) _ _ (by omega) _) _ _ (by omega) _) _ _ (by omega) _
end Go.Proofs.YthccipaobeapbabGreatDoor

/-
  Decimals read: impl's readDecimal and the specification's l2Number.
-/
namespace Go.Proofs.YthccipaobeapbabGreatDoor
open Go.RowKit

def digB (c : Int) : Bool := decide (48 ≤ c) && decide (c ≤ 57)
/-- The number of the first k digits. -/
def numTo (s : ByteArray) : Nat → Nat
  | 0 => 0
  | k + 1 => numTo s k * 10 + ((s.data.toList.getD k 0).toNat - 48)
def digitsB (s : ByteArray) : Bool := s.data.toList.all fun c => digB c.toNat
def leadB (s : ByteArray) : Bool := decide (1 < s.size) && (s.data.toList.getD 0 0).toNat == 48
/-- A decimal of at most seven digits. -/
def decB (s : ByteArray) : Bool := inB s.size 1 7 && (!leadB s && digitsB s)

theorem getD_byte {s : ByteArray} {k : Nat} (hk : k < s.size) : s.data.toList.getD k 0 = s[k] := by
  have h : k < s.data.size := hk
  rw [List.getD, Array.getElem?_toList, Array.getElem?_eq_getElem h]; rfl
theorem digitsB_true {s : ByteArray} (h : ∀ k (hk : k < s.size), digB (s[k].toNat) = true) : digitsB s = true := by
  unfold digitsB
  rw [List.all_eq_true]
  intro c hc
  obtain ⟨k, hk, rfl⟩ := List.getElem_of_mem hc
  exact h k (by simpa using hk)
theorem digitsB_false {s : ByteArray} {k : Nat} (hk : k < s.size) (h : digB (s[k].toNat) = false) : digitsB s = false := by
  unfold digitsB
  rw [List.all_eq_false]
  exact ⟨s[k], by simp [ByteArray.getElem_eq_getElem_data], by simp [h]⟩
theorem digB_iff {c : Int} : digB c = true ↔ 48 ≤ c ∧ c ≤ 57 := by simp [digB]
theorem numTo_lt {s : ByteArray} : ∀ (k : Nat), k ≤ s.size → (∀ j (hj : j < s.size), j < k → digB (s[j].toNat) = true) → numTo s k < 10 ^ k
  | 0, _, _ => by simp [numTo]
  | k + 1, hk, h => by
    have ih := numTo_lt k (by omega) (fun j hj hjk => h j hj (by omega))
    have hd := digB_iff.1 (h k (by omega) (by omega))
    rw [numTo, getD_byte (by omega), Nat.pow_succ]
    omega
theorem numTo_seven {s : ByteArray} (k : Nat) (hs : s.size ≤ 7) (hk : k ≤ s.size) (h : ∀ j (hj : j < s.size), j < k → digB (s[j].toNat) = true) : numTo s k < 10000000 :=
  Nat.lt_of_lt_of_le (numTo_lt k hk h) (Nat.pow_le_pow_right (by omega) (by omega : k ≤ 7))

theorem u8_zero (c : UInt8) : (((c.toNat : Nat) : Int) == 48) = (c.toNat == 48) := by
  rw [Bool.eq_iff_iff]; simp only [beq_iff_eq]; omega

set_option maxHeartbeats 1600000 in
theorem readDecimal_any (s : ByteArray) (w : World) (hs : s.size ≤ maxLen) :
    Calls Tryz.prog 167 #[.string s] w fun e w' => e = .returned (.tuple #[.int .i64 (bif decB s then (numTo s s.size : Int) else 0), .bool (decB s)]) ∧ Below w.heap.size w w' := by
  unfold maxLen at hs
  by_cases h1 : (s.size : Int) < 1
  · have e : decB s = false := by simp [decB, inB]; omega
    rw [e]; clear e
    go_enter Tryz.func167, Tryz.ntmps167
    go_wp2
    go_ret2
    exact ⟨rfl, Below.refl _ _⟩
  by_cases h2 : (7 : Int) < s.size
  · have e : decB s = false := by simp [decB, inB]; omega
    rw [e]; clear e
    go_enter Tryz.func167, Tryz.ntmps167
    go_wp2
    go_ret2
    exact ⟨rfl, Below.refl _ _⟩
  have hin : inB s.size 1 7 = true := by simp [inB]; omega
  have hz : 0 < s.size := by omega
  cases hl : leadB s
  · have e : decB s = digitsB s := by simp [decB, hin, hl]
    have HL : Hid (leadB s = false) := hl
    rw [e]; clear e hin
    have hsz7 : s.size ≤ 7 := by omega
    by_cases h3 : (1 : Int) < s.size
    · have h4 : (((s[0].toNat : Nat) : Int) == 48) = false := by
        rw [u8_zero]
        have : 1 < s.size := by omega
        simp only [leadB, this, decide_true, Bool.true_and, getD_byte hz] at hl
        exact hl
      clear hl
      go_enter Tryz.func167, Tryz.ntmps167
      go_wp2
      go_loopw [4, 6] (fun n _ wr => ∃ k : Nat, k ≤ s.size ∧ wr = w.iter s k ∧ n = .int .i64 (numTo s k : Int) ∧ Hid (∀ j (hj : j < s.size), j < k → digB (s[j].toNat) = true)) (fun _ _ wr => s.size - wr.iterPos w.heap.size)
      case atStart => exact ⟨0, Nat.zero_le _, rfl, rfl, fun j _ hj => absurd hj (Nat.not_lt_zero _)⟩
      case round =>
        obtain ⟨k, hk, rfl, rfl, HA⟩ := hrel
        by_cases hlt : k < s.size
        · have hn7 : numTo s k < 10000000 := numTo_seven k hsz7 hk HA.out
          have HS : Hid (numTo s (k + 1) = numTo s k * 10 + (s[k].toNat - 48)) := by
            show numTo s (k + 1) = _
            rw [numTo, getD_byte hlt]
          by_cases ha : s[k].toNat < 128
          · have hnx : ∀ ty, (Instr.next (.pointer (some ⟨w.heap.size, 0, none⟩)) true ty).run Tryz.prog (w.iter s k) = _ := fun ty => run_next_ascii w s k ty hlt ha
            generalize hc : s[k].toNat = c at hnx ha HS
            have HC : Hid (s[k].toNat = c) := hc
            clear hc
            generalize numTo s k = nk at hn7 HS
            by_cases h5 : (c : Int) < 48
            · go_wp2
              go_ret2
              have e : digitsB s = false := digitsB_false hlt (by rw [HC.out]; simp [digB]; omega)
              rw [e]
              exact ⟨rfl, below_iter _ _ _⟩
            · by_cases h6 : (57 : Int) < (c : Int)
              · go_wp2
                go_ret2
                have e : digitsB s = false := digitsB_false hlt (by rw [HC.out]; simp [digB]; omega)
                rw [e]
                exact ⟨rfl, below_iter _ _ _⟩
              · go_wp2
                go_roundw
                case rel => exact ⟨k + 1, by omega, rfl, by rw [HS.out]; congr 1; omega, fun j hj hjk => if h : j = k then by subst h; rw [HC.out, digB_iff]; omega else HA.out j hj (by omega)⟩
                case measure => simp; omega
          · have hnx : ∀ ty, (Instr.next (.pointer (some ⟨w.heap.size, 0, none⟩)) true ty).run Tryz.prog (w.iter s k) = _ := fun ty => run_next_any w s k ty hlt
            have hd := (decode_high s k hlt (by omega)).1
            generalize Utf8.decode s k = d at hnx hd
            have h5 : ¬ (d.1 : Int) < 48 := by omega
            have h6 : (57 : Int) < (d.1 : Int) := by omega
            have HD : Hid (digitsB s = false) := digitsB_false hlt (by simp [digB]; omega)
            go_wp2
            go_ret2
            rw [HD.out]
            exact ⟨rfl, below_iter _ _ _⟩
        · have hnx : ∀ ty, (Instr.next (.pointer (some ⟨w.heap.size, 0, none⟩)) true ty).run Tryz.prog (w.iter s k) = _ := fun ty => run_next_end w s k ty hlt
          have HT : Hid (digitsB s = true) := digitsB_true fun j hj => HA.out j hj (by omega)
          have HK : Hid (k = s.size) := by show k = s.size; omega
          go_wp2
          go_ret2
          rw [HT.out, HK.out]
          exact ⟨rfl, below_iter _ _ _⟩
    · clear hl
      go_enter Tryz.func167, Tryz.ntmps167
      go_wp2
      go_loopw [4, 6] (fun n _ wr => ∃ k : Nat, k ≤ s.size ∧ wr = w.iter s k ∧ n = .int .i64 (numTo s k : Int) ∧ Hid (∀ j (hj : j < s.size), j < k → digB (s[j].toNat) = true)) (fun _ _ wr => s.size - wr.iterPos w.heap.size)
      case atStart => exact ⟨0, Nat.zero_le _, rfl, rfl, fun j _ hj => absurd hj (Nat.not_lt_zero _)⟩
      case round =>
        obtain ⟨k, hk, rfl, rfl, HA⟩ := hrel
        by_cases hlt : k < s.size
        · have hn7 : numTo s k < 10000000 := numTo_seven k hsz7 hk HA.out
          have HS : Hid (numTo s (k + 1) = numTo s k * 10 + (s[k].toNat - 48)) := by
            show numTo s (k + 1) = _
            rw [numTo, getD_byte hlt]
          by_cases ha : s[k].toNat < 128
          · have hnx : ∀ ty, (Instr.next (.pointer (some ⟨w.heap.size, 0, none⟩)) true ty).run Tryz.prog (w.iter s k) = _ := fun ty => run_next_ascii w s k ty hlt ha
            generalize hc : s[k].toNat = c at hnx ha HS
            have HC : Hid (s[k].toNat = c) := hc
            clear hc
            generalize numTo s k = nk at hn7 HS
            by_cases h5 : (c : Int) < 48
            · go_wp2
              go_ret2
              have e : digitsB s = false := digitsB_false hlt (by rw [HC.out]; simp [digB]; omega)
              rw [e]
              exact ⟨rfl, below_iter _ _ _⟩
            · by_cases h6 : (57 : Int) < (c : Int)
              · go_wp2
                go_ret2
                have e : digitsB s = false := digitsB_false hlt (by rw [HC.out]; simp [digB]; omega)
                rw [e]
                exact ⟨rfl, below_iter _ _ _⟩
              · go_wp2
                go_roundw
                case rel => exact ⟨k + 1, by omega, rfl, by rw [HS.out]; congr 1; omega, fun j hj hjk => if h : j = k then by subst h; rw [HC.out, digB_iff]; omega else HA.out j hj (by omega)⟩
                case measure => simp; omega
          · have hnx : ∀ ty, (Instr.next (.pointer (some ⟨w.heap.size, 0, none⟩)) true ty).run Tryz.prog (w.iter s k) = _ := fun ty => run_next_any w s k ty hlt
            have hd := (decode_high s k hlt (by omega)).1
            generalize Utf8.decode s k = d at hnx hd
            have h5 : ¬ (d.1 : Int) < 48 := by omega
            have h6 : (57 : Int) < (d.1 : Int) := by omega
            have HD : Hid (digitsB s = false) := digitsB_false hlt (by simp [digB]; omega)
            go_wp2
            go_ret2
            rw [HD.out]
            exact ⟨rfl, below_iter _ _ _⟩
        · have hnx : ∀ ty, (Instr.next (.pointer (some ⟨w.heap.size, 0, none⟩)) true ty).run Tryz.prog (w.iter s k) = _ := fun ty => run_next_end w s k ty hlt
          have HT : Hid (digitsB s = true) := digitsB_true fun j hj => HA.out j hj (by omega)
          have HK : Hid (k = s.size) := by show k = s.size; omega
          go_wp2
          go_ret2
          rw [HT.out, HK.out]
          exact ⟨rfl, below_iter _ _ _⟩
  · have e : decB s = false := by simp [decB, hl]
    have h3 : (1 : Int) < s.size := by
      have : 1 < s.size := by simp [leadB] at hl; exact hl.1
      omega
    have h4 : (((s[0].toNat : Nat) : Int) == 48) = true := by
      rw [u8_zero]
      simp only [leadB, Bool.and_eq_true, getD_byte hz] at hl
      exact hl.2
    rw [e]; clear e hl hin
    go_enter Tryz.func167, Tryz.ntmps167
    go_wp2
    go_ret2
    exact ⟨rfl, Below.refl _ _⟩
end Go.Proofs.YthccipaobeapbabGreatDoor

/-
  A text cut at each space: the specification's l2Cut.
-/
namespace Go.Proofs.YthccipaobeapbabGreatDoor
open Go.RowKit

/-- v is a slice of texts, in w. -/
def StrsAt (w : World) (v : Value) (ws : List ByteArray) : Prop :=
  ∃ g off cap, v = .slice (some ⟨g, off, none⟩) ws.length cap ∧ ws.length ≤ cap ∧ cap ≤ maxLen ∧ ∀ i x, ws[i]? = some x → w.cell? ⟨g, off + i, none⟩ = some (.string x)
theorem StrsAt.keep {w w' : World} {v : Value} {ws : List ByteArray} (h : StrsAt w v ws) (hb : Below w.heap.size w w') : StrsAt w' v ws := by
  obtain ⟨g, off, cap, rfl, h1, h2, h3⟩ := h
  exact ⟨g, off, cap, rfl, h1, h2, fun i x hx => cell_keep hb (Nat.le_refl _) (h3 i x hx)⟩

/-- Pieces of bytes, cut at each space; cur is the piece at hand. -/
def cutA (cur : List UInt8) : List UInt8 → List (List UInt8)
  | [] => [cur]
  | c :: r => if c = 32 then cur :: cutA [] r else cutA (cur ++ [c]) r

def bytes (s : ByteArray) : List UInt8 := s.data.toList
theorem bytes_inj {a b : ByteArray} (h : bytes a = bytes b) : a = b := ByteArray.ext (Array.toList_inj.1 h)
theorem bytes_length (s : ByteArray) : (bytes s).length = s.size := by simp [bytes]
theorem bytes_extract (s : ByteArray) (a b : Nat) : bytes (s.extract a b) = ((bytes s).drop a).take (b - a) := by
  simp [bytes]

theorem drop_cons (s : ByteArray) (k : Nat) (h : k < s.size) : (bytes s).drop k = s[k] :: (bytes s).drop (k + 1) := by
  have hl : k < (bytes s).length := by rw [bytes_length]; exact h
  rw [List.drop_eq_getElem_cons hl]
  rfl
theorem piece_snoc (s : ByteArray) (a k : Nat) (ha : a ≤ k) (h : k < s.size) : bytes (s.extract a (k + 1)) = bytes (s.extract a k) ++ [s[k]] := by
  rw [bytes_extract, bytes_extract]
  have hl : k - a < ((bytes s).drop a).length := by rw [List.length_drop, bytes_length]; omega
  rw [show k + 1 - a = k - a + 1 by omega, List.take_succ_eq_append_getElem hl]
  congr 2
  simp only [List.getElem_drop]
  have : a + (k - a) = k := by omega
  simp only [this]
  rfl

/-- What is cut so far, the piece at hand, and the rest come to the whole. -/
def CutInv (s : ByteArray) (fr k : Nat) (P : List ByteArray) : Prop := P.map bytes ++ cutA (bytes (s.extract fr k)) ((bytes s).drop k) = cutA [] (bytes s)
theorem CutInv.start (s : ByteArray) : CutInv s 0 0 [] := by
  unfold CutInv
  rw [bytes_extract]
  simp
theorem CutInv.space {s : ByteArray} {fr k : Nat} {P : List ByteArray} (h : CutInv s fr k P) (hk : k < s.size) (hc : s[k] = 32) : CutInv s (k + 1) (k + 1) (P ++ [s.extract fr k]) := by
  unfold CutInv at h ⊢
  rw [drop_cons s k hk, cutA, if_pos hc] at h
  rw [← h, bytes_extract s (k + 1) (k + 1)]
  simp
theorem CutInv.other {s : ByteArray} {fr k : Nat} {P : List ByteArray} (h : CutInv s fr k P) (ha : fr ≤ k) (hk : k < s.size) (hc : ¬ s[k] = 32) : CutInv s fr (k + 1) P := by
  unfold CutInv at h ⊢
  rw [drop_cons s k hk, cutA, if_neg hc] at h
  rw [← h, piece_snoc s fr k ha hk]
theorem CutInv.fin {s : ByteArray} {fr : Nat} {P : List ByteArray} (h : CutInv s fr s.size P) : (P ++ [s.extract fr s.size]).map bytes = cutA [] (bytes s) := by
  unfold CutInv at h
  rw [List.drop_of_length_le (by rw [bytes_length]; omega), cutA] at h
  rw [← h]; simp

theorem u8_space (c : UInt8) : (((c.toNat : Nat) : Int) == 32) = (c == 32) := by
  rw [Bool.eq_iff_iff]
  simp only [beq_iff_eq]
  constructor
  · intro h
    apply UInt8.toNat_inj.1
    have : c.toNat = 32 := by omega
    simpa using this
  · rintro rfl; rfl

theorem own_ge {w : World} {base : Nat} {e : TypeId} {size : Nat} {v : Value} {n : Nat} {xs : List Value} (h : w.ownsRow base e size v n xs) : ∀ k, v.ownBlock = some k → base ≤ k := by
  intro k hk
  rcases h.2 with ⟨rfl, _⟩ | ⟨g, cap, cur, rfl, hg, _⟩
  · cases hk
  · cases hk; exact hg
theorem strs_of_own {w : World} {base : Nat} {e : TypeId} {v : Value} {ws : List ByteArray} (h : w.ownsRow base e 1 v ws.length (ws.map Value.string)) (hne : ws ≠ []) : StrsAt w v ws := by
  rcases h.2 with ⟨_, h0⟩ | ⟨g, cap, cur, rfl, _, hb, hn, hc, _, ht⟩
  · exact absurd (List.length_eq_zero_iff.1 h0) hne
  · refine ⟨g, 0, cap, rfl, hn, hc, fun i x hx => ?_⟩
    have hi : i < ws.length := (List.getElem?_eq_some_iff.1 hx).1
    have h1 : cur.toList[i]? = some (.string x) := by
      have h2 : (cur.toList.take (ws.length * 1))[i]? = some (.string x) := by rw [ht]; simp [hx]
      rw [List.getElem?_take] at h2
      simpa [hi] using h2
    simp only [Nat.zero_add, World.cell?, hb]
    simpa using h1

theorem infoStr : (Tryz.prog.info? 9).map (fun i => (i.zero, i.size, i.bytes)) = some (some (.string ByteArray.empty), 1, 16) := by kernel_rfl

set_option maxHeartbeats 1600000 in
theorem l2Cut_any (s : ByteArray) (w : World) (hs : s.size ≤ 1048576) :
    Calls Tryz.prog 60 #[.string s, .int .u8 32] w fun e w' => ∃ v ws, e = .returned v ∧ StrsAt w' v ws ∧ ws.map bytes = cutA [] (bytes s) ∧ Below w.heap.size w w' := by
  obtain ⟨i0, hi, hz0, hz1, hz2⟩ := info_parts infoStr
  go_enter Tryz.func60, Tryz.ntmps60
  go_wp2
  go_loopw [5, 6, 7] (fun o f i wr => ∃ (k fr : Nat) (P : List ByteArray), fr ≤ k ∧ k ≤ s.size ∧ i = .int .i64 k ∧ f = .int .i64 fr ∧ P.length ≤ k ∧ wr.ownsRow w.heap.size 9 1 o P.length (P.map Value.string) ∧ Below w.heap.size w wr ∧ Hid (CutInv s fr k P)) (fun _ _ i _ => s.size - (intOf i).toNat)
  case atStart => exact ⟨0, 0, [], Nat.le_refl _, Nat.zero_le _, rfl, rfl, Nat.le_refl _, World.ownsRow_made w #[] 0 (Nat.le_refl _) (Nat.zero_le _) rfl, (Below.refl _ _).alloc (Nat.le_refl _) _, CutInv.start s⟩
  case round =>
    obtain ⟨k, fr, P, hfk, hk, rfl, rfl, hpl, hown, hb, HI⟩ := hrel
    by_cases hlt : k < s.size
    · by_cases hc : s[k] = 32
      · have h1 : (((s[k].toNat : Nat) : Int) == 32) = true := by rw [u8_space]; simpa using hc
        have HC : Hid (s[k] = 32) := hc
        clear hc
        go_wp2_with (at_builtin; refine wpList_append_own _ rfl _ _ 50 rfl w.heap.size 9 i0 (.string ByteArray.empty) 1 16 Tryz.underlying50 hi hz0 hz1 hz2 rfl (by decide) _ _ _ rfl (hown.alloc _) ⟨wr.heap.size, 0, none⟩ 1 1 [.string (s.extract fr k)] rfl rfl (cell_one_new _ _ _) (fun x hx => by simp at hx; subst hx; rfl) (by unfold maxLen; omega) (by omega) (by have := hb.size; simp; omega) ?_; intro v' w3 hown' hgrow3 hnil3)
        refine ⟨⟨k + 1, k + 1, P ++ [s.extract fr k], Nat.le_refl _, by omega, by go_num, by go_num, by simp; omega, ?_, (hb.alloc hb.size _).grown hgrow3 (by have := hb.size; simp; omega) (own_ge hown), HI.out.space hlt HC.out⟩, by simp [intOf]; omega⟩
        simpa using hown'
      · have h1 : (((s[k].toNat : Nat) : Int) == 32) = false := by rw [u8_space]; simpa using hc
        have HC : Hid (¬ s[k] = 32) := hc
        clear hc
        go_wp2
        exact ⟨⟨k + 1, fr, P, by omega, by omega, by go_num, rfl, by omega, hown, hb, HI.out.other hfk hlt HC.out⟩, by simp [intOf]; omega⟩
    · have HK : Hid (k = s.size) := by show k = s.size; omega
      go_wp2_with (at_builtin; refine wpList_append_own _ rfl _ _ 50 rfl w.heap.size 9 i0 (.string ByteArray.empty) 1 16 Tryz.underlying50 hi hz0 hz1 hz2 rfl (by decide) _ _ _ rfl (hown.alloc _) ⟨wr.heap.size, 0, none⟩ 1 1 [.string (s.extract fr s.size)] rfl rfl (cell_one_new _ _ _) (fun x hx => by simp at hx; subst hx; rfl) (by unfold maxLen; omega) (by omega) (by have := hb.size; simp; omega) ?_; intro v' w3 hown' hgrow3 hnil3)
      go_ret
      refine ⟨v', P ++ [s.extract fr s.size], rfl, strs_of_own (base := w.heap.size) (e := 9) (by simpa using hown') (by simp), ?_, (hb.alloc hb.size _).grown hgrow3 (by have := hb.size; simp; omega) (own_ge hown)⟩
      have := HI.out
      rw [HK.out] at this
      exact this.fin
end Go.Proofs.YthccipaobeapbabGreatDoor

/-
  A text cut at each space, by its runes: impl's wordsOf gives the same pieces as the cut by bytes.
-/
namespace Go.Proofs.YthccipaobeapbabGreatDoor
open Go.RowKit

/-- The pieces of a text. -/
def cutW (s : ByteArray) : List ByteArray := (cutA [] (bytes s)).map fun l => ⟨⟨l⟩⟩
theorem cutW_eq {s : ByteArray} {ws : List ByteArray} (h : ws.map bytes = cutA [] (bytes s)) : ws = cutW s := by
  unfold cutW
  rw [← h, List.map_map]
  have : ((fun l => (⟨⟨l⟩⟩ : ByteArray)) ∘ bytes) = id := by funext x; rfl
  rw [this, List.map_id]
theorem get!_eq (s : ByteArray) (k : Nat) (h : k < s.size) : s.get! k = s[k] := get_at s k h

theorem decode_skip (s : ByteArray) (pos : Nat) (h : pos < s.size) (ha : 128 ≤ (s[pos]'h).toNat) :
    pos + (Utf8.decode s pos).2 ≤ s.size ∧ ∀ j (hj : j < s.size), pos ≤ j → j < pos + (Utf8.decode s pos).2 → 128 ≤ (s[j]'hj).toNat := by
  have hn : ¬ (s[pos]'h).toNat < 128 := by omega
  have one : ∀ j (hj : j < s.size), pos ≤ j → j < pos + 1 → 128 ≤ (s[j]'hj).toNat := fun j hj h1 h2 => by
    have : j = pos := by omega
    subst this; exact ha
  have more : ∀ k, pos + k < s.size → (s.get! (pos + k)).toNat / 64 = 2 → ∀ (hj : pos + k < s.size), 128 ≤ (s[pos + k]'hj).toNat := fun k hk hq hj => by
    rw [get!_eq s _ hj] at hq; omega
  simp only [Utf8.decode, get_at s pos h, hn, if_false]
  split
  · next hc =>
    simp only [Bool.and_eq_true, decide_eq_true_eq, beq_iff_eq] at hc
    obtain ⟨_, h1, q1⟩ := hc
    split
    · refine ⟨by show pos + 2 ≤ _; omega, fun j hj a b => ?_⟩
      have b' : j < pos + 2 := b
      by_cases e : j = pos
      · exact one j hj a (by omega)
      · obtain rfl : j = pos + 1 := by omega
        exact more 1 h1 q1 hj
    · exact ⟨by show pos + 1 ≤ _; omega, fun j hj a b => one j hj a b⟩
  · split
    · next hc =>
      simp only [Bool.and_eq_true, decide_eq_true_eq, beq_iff_eq] at hc
      obtain ⟨⟨_, h1, q1⟩, h2, q2⟩ := hc
      split
      · refine ⟨by show pos + 3 ≤ _; omega, fun j hj a b => ?_⟩
        have b' : j < pos + 3 := b
        by_cases e : j = pos
        · exact one j hj a (by omega)
        · by_cases e2 : j = pos + 1
          · subst e2; exact more 1 h1 q1 hj
          · obtain rfl : j = pos + 2 := by omega
            exact more 2 h2 q2 hj
      · exact ⟨by show pos + 1 ≤ _; omega, fun j hj a b => one j hj a b⟩
    · split
      · next hc =>
        simp only [Bool.and_eq_true, decide_eq_true_eq, beq_iff_eq] at hc
        obtain ⟨⟨⟨_, h1, q1⟩, h2, q2⟩, h3, q3⟩ := hc
        split
        · refine ⟨by show pos + 4 ≤ _; omega, fun j hj a b => ?_⟩
          have b' : j < pos + 4 := b
          by_cases e : j = pos
          · exact one j hj a (by omega)
          · by_cases e2 : j = pos + 1
            · subst e2; exact more 1 h1 q1 hj
            · by_cases e3 : j = pos + 2
              · subst e3; exact more 2 h2 q2 hj
              · obtain rfl : j = pos + 3 := by omega
                exact more 3 h3 q3 hj
        · exact ⟨by show pos + 1 ≤ _; omega, fun j hj a b => one j hj a b⟩
      · exact ⟨by show pos + 1 ≤ _; omega, fun j hj a b => one j hj a b⟩

theorem CutInv.skip {s : ByteArray} {fr k : Nat} {P : List ByteArray} (h : CutInv s fr k P) (ha : fr ≤ k) : ∀ n, k + n ≤ s.size → (∀ j (hj : j < s.size), k ≤ j → j < k + n → ¬ s[j] = 32) → CutInv s fr (k + n) P
  | 0, _, _ => h
  | n + 1, hk, hc => (CutInv.skip h ha n (by omega) (fun j hj a b => hc j hj a (by omega))).other (by omega) (by omega : k + n < s.size) (hc _ _ (by omega) (by omega))

theorem not_space {c : UInt8} (h : 128 ≤ c.toNat) : ¬ c = 32 := fun e => by rw [e] at h; simp at h

set_option maxHeartbeats 1600000 in
theorem wordsOf_any (s : ByteArray) (w : World) (hs : s.size ≤ 1048576) :
    Calls Tryz.prog 191 #[.string s] w fun e w' => ∃ v, e = .returned v ∧ StrsAt w' v (cutW s) ∧ Below w.heap.size w w' := by
  obtain ⟨i0, hi, hz0, hz1, hz2⟩ := info_parts infoStr
  go_enter Tryz.func191, Tryz.ntmps191
  go_wp2
  go_loopw [3, 4, 5, 6] (fun o f _ _ wr => ∃ (k fr : Nat) (P : List ByteArray), fr ≤ k ∧ k ≤ s.size ∧ f = .int .i64 fr ∧ P.length ≤ k ∧ wr.ownsRow (w.heap.size + 1) 9 1 o P.length (P.map Value.string) ∧ wr.heap[w.heap.size]? = some (.stringIter s k) ∧ Below w.heap.size w wr ∧ Hid (CutInv s fr k P)) (fun _ _ _ _ wr => s.size - wr.iterPos w.heap.size)
  case atStart => exact ⟨0, 0, [], Nat.le_refl _, Nat.zero_le _, rfl, Nat.le_refl _, ⟨rfl, .inl ⟨rfl, rfl⟩⟩, World.iter_heap w s 0, (Below.refl _ _).alloc (Nat.le_refl _) _, CutInv.start s⟩
  case round =>
    obtain ⟨k, fr, P, hfk, hk, rfl, hpl, hown, hit, hb, HI⟩ := hrel
    have hsz : w.heap.size < wr.heap.size := (Array.getElem?_eq_some_iff.1 hit).1
    by_cases hlt : k < s.size
    · by_cases ha : s[k].toNat < 128
      · have hnx : ∀ ty, (Instr.next (.pointer (some ⟨w.heap.size, 0, none⟩)) true ty).run Tryz.prog wr = _ := fun ty => Lib.run_next_ascii_at wr w.heap.size s k ty hit hlt ha
        have hit2 := Lib.iterAt_heap wr w.heap.size s k (k + 1) hit
        have hb2 := Lib.below_iterAt hb (k := w.heap.size) (Nat.le_refl _) s (k + 1)
        have hown2 := ownsRow_iterAt hown (k := w.heap.size) (Nat.lt_succ_self _) s (k + 1)
        have HP : Hid (wr.iterPos w.heap.size = k) := iterPos_of hit
        by_cases hc : s[k] = 32
        · have h1 : (((s[k].toNat : Nat) : Int) == 32) = true := by rw [u8_space]; simpa using hc
          have HC : Hid (s[k] = 32) := hc
          clear hc
          generalize hW : wr.iterAt w.heap.size s (k + 1) = W at hnx hit2 hb2 hown2
          have hszW : w.heap.size < W.heap.size := (Array.getElem?_eq_some_iff.1 hit2).1
          clear hW
          go_wp2_with (at_builtin; refine wpList_append_own _ rfl _ _ 50 rfl (w.heap.size + 1) 9 i0 (.string ByteArray.empty) 1 16 Tryz.underlying50 hi hz0 hz1 hz2 rfl (by decide) _ _ _ rfl (hown2.alloc _) ⟨W.heap.size, 0, none⟩ 1 1 [.string (s.extract fr k)] rfl rfl (cell_one_new _ _ _) (fun x hx => by simp at hx; subst hx; rfl) (by unfold maxLen; omega) (by omega) (by have := hb.size; simp; omega) ?_; intro v' w3 hown' hgrow3 hnil3)
          have hit3 : w3.heap[w.heap.size]? = some (.stringIter s (k + 1)) := (hgrow3.block w.heap.size (by simp; omega) (fun hj => by have := own_ge hown2 _ hj.symm; omega)).trans ((Below.heap_alloc _ _ _ hszW).trans hit2)
          refine ⟨⟨k + 1, k + 1, P ++ [s.extract fr k], Nat.le_refl _, by omega, by go_num, by simp; omega, by simpa using hown', hit3, (hb2.alloc hb2.size _).grown hgrow3 (by have := hb2.size; simp; omega) (fun j hj => by have := own_ge hown2 _ hj; omega), HI.out.space hlt HC.out⟩, ?_⟩
          rw [iterPos_of hit3, HP.out]; omega
        · have h1 : (((s[k].toNat : Nat) : Int) == 32) = false := by rw [u8_space]; simpa using hc
          have HC : Hid (¬ s[k] = 32) := hc
          clear hc
          go_wp2
          refine ⟨⟨k + 1, fr, P, by omega, by omega, rfl, by omega, hown2, hit2, hb2, HI.out.other hfk hlt HC.out⟩, ?_⟩
          rw [iterPos_of hit2, HP.out]; omega
      · have hnx : ∀ ty, (Instr.next (.pointer (some ⟨w.heap.size, 0, none⟩)) true ty).run Tryz.prog wr = _ := fun ty => Lib.run_next_any_at wr w.heap.size s k ty hit hlt
        have hd := decode_high s k hlt (by omega)
        have HS : Hid (k + (Utf8.decode s k).2 ≤ s.size ∧ ∀ j (hj : j < s.size), k ≤ j → j < k + (Utf8.decode s k).2 → 128 ≤ (s[j]'hj).toNat) := decode_skip s k hlt (by omega)
        have HP : Hid (wr.iterPos w.heap.size = k) := iterPos_of hit
        generalize Utf8.decode s k = d at hnx hd HS
        obtain ⟨d1, d2⟩ := d
        dsimp only at hnx hd HS
        have hit2 := Lib.iterAt_heap wr w.heap.size s k (k + d2) hit
        have hb2 := Lib.below_iterAt hb (k := w.heap.size) (Nat.le_refl _) s (k + d2)
        have hown2 := ownsRow_iterAt hown (k := w.heap.size) (Nat.lt_succ_self _) s (k + d2)
        have h1 : ((d1 : Int) == 32) = false := by simp; omega
        go_wp2
        have hS := HS.out
        refine ⟨⟨k + d2, fr, P, by omega, hS.1, rfl, by omega, hown2, hit2, hb2, HI.out.skip hfk d2 hS.1 fun j hj a b => not_space (hS.2 j hj a b)⟩, ?_⟩
        rw [iterPos_of hit2, HP.out]; omega
    · have hnx : ∀ ty, (Instr.next (.pointer (some ⟨w.heap.size, 0, none⟩)) true ty).run Tryz.prog wr = _ := fun ty => Lib.run_next_end_at wr w.heap.size s k ty hit hlt
      have HK : Hid (k = s.size) := by show k = s.size; omega
      go_wp2_with (at_builtin; refine wpList_append_own _ rfl _ _ 50 rfl (w.heap.size + 1) 9 i0 (.string ByteArray.empty) 1 16 Tryz.underlying50 hi hz0 hz1 hz2 rfl (by decide) _ _ _ rfl (hown.alloc _) ⟨wr.heap.size, 0, none⟩ 1 1 [.string (s.extract fr s.size)] rfl rfl (cell_one_new _ _ _) (fun x hx => by simp at hx; subst hx; rfl) (by unfold maxLen; omega) (by omega) (by have := hb.size; simp; omega) ?_; intro v' w3 hown' hgrow3 hnil3)
      go_ret
      have h2 := HI.out
      rw [HK.out] at h2
      have h3 : StrsAt w3 v' (P ++ [s.extract fr s.size]) := strs_of_own (base := w.heap.size + 1) (e := 9) (by simpa using hown') (by simp)
      rw [cutW_eq h2.fin] at h3
      exact ⟨v', rfl, h3, (hb.alloc hb.size _).grown hgrow3 (by have := hb.size; simp; omega) (fun j hj => by have := own_ge hown _ hj; omega)⟩
end Go.Proofs.YthccipaobeapbabGreatDoor

/-
  Plain facts: texts in the order of their bytes.
-/
namespace Go.Proofs.YthccipaobeapbabGreatDoor
open Go.RowKit

theorem bl_irrefl : ∀ a : List UInt8, Op.bytesLess a a = false
  | [] => rfl
  | a :: x => by
    have : ¬ a < a := UInt8.lt_irrefl a
    simp [Op.bytesLess, bl_irrefl x]
theorem bl_trans : ∀ a b c : List UInt8, Op.bytesLess a b = true → Op.bytesLess b c = true → Op.bytesLess a c = true
  | a, b, [], h, k => by cases b <;> simp [Op.bytesLess] at k
  | a, [], c :: z, h, k => by cases a <;> simp [Op.bytesLess] at h
  | [], b :: y, c :: z, h, k => rfl
  | a :: x, b :: y, c :: z, h, k => by
    simp only [Op.bytesLess, Bool.or_eq_true, Bool.and_eq_true, decide_eq_true_eq, beq_iff_eq] at h k ⊢
    rcases h with h | ⟨rfl, h⟩
    · rcases k with k | ⟨rfl, k⟩
      · exact .inl (UInt8.lt_trans h k)
      · exact .inl h
    · rcases k with k | ⟨rfl, k⟩
      · exact .inl k
      · exact .inr ⟨rfl, bl_trans x y z h k⟩
theorem bl_total : ∀ a b : List UInt8, Op.bytesLess a b = false → Op.bytesLess b a = false → a = b
  | [], [], _, _ => rfl
  | [], b :: y, h, _ => by simp [Op.bytesLess] at h
  | a :: x, [], _, k => by simp [Op.bytesLess] at k
  | a :: x, b :: y, h, k => by
    simp only [Op.bytesLess, Bool.or_eq_false_iff, decide_eq_false_iff_not, Bool.and_eq_false_iff, beq_eq_false_iff_ne] at h k
    have e : a = b := by
      have h1 : b ≤ a := UInt8.not_lt.1 h.1
      have h2 : a ≤ b := UInt8.not_lt.1 k.1
      exact UInt8.le_antisymm h2 h1
    subst e
    have h2 : Op.bytesLess x y = false := by rcases h.2 with h | h; exact absurd rfl h; exact h
    have k2 : Op.bytesLess y x = false := by rcases k.2 with k | k; exact absurd rfl k; exact k
    rw [bl_total x y h2 k2]
def blS (a b : ByteArray) : Bool := Op.bytesLess a.toList b.toList
theorem blS_irrefl (a : ByteArray) : blS a a = false := bl_irrefl _
theorem blS_trans {a b c : ByteArray} (h : blS a b = true) (k : blS b c = true) : blS a c = true := bl_trans _ _ _ h k
theorem blS_total {a b : ByteArray} (h : blS a b = false) (k : blS b a = false) : a = b := by
  have := bl_total _ _ h k
  rw [ByteArray.toList_eq, ByteArray.toList_eq] at this
  exact bytes_inj this
end Go.Proofs.YthccipaobeapbabGreatDoor

/-
  Plain facts: what fits.
-/
namespace Go.Proofs.YthccipaobeapbabGreatDoor
open Go.RowKit

theorem str_eq {a b : ByteArray} (h : a = b) : (a.toList == b.toList) = true := by subst h; simp
theorem str_ne {a b : ByteArray} (h : ¬ a = b) : (a.toList == b.toList) = false := by
  rw [ByteArray.toList_eq, ByteArray.toList_eq]
  simp only [beq_eq_false_iff_ne, ne_eq]
  exact fun e => h (bytes_inj e)

/-- One of the list has this name. -/
def memB (l : List Tri) (v : ByteArray) : Bool := !allB l.length fun i => !decide ((at' l i).s = v)
theorem memB_true {l : List Tri} {v : ByteArray} {k : Nat} (hk : k < l.length) (h : (at' l k).s = v) : memB l v = true := by
  unfold memB; rw [allB_false hk (by simp [h])]; rfl
theorem memB_false {l : List Tri} {v : ByteArray} (h : ∀ j, j < l.length → ¬ (at' l j).s = v) : memB l v = false := by
  unfold memB; rw [allB_true fun j hj => by simp [h j hj]]; rfl

/-- The place of the first that does not come ahead of this name; behind the last, if there is none. -/
def plc (l : List Tri) (v : ByteArray) : Nat := l.findIdx fun t => geB t.s v
/-- It has this name. -/
def hasB (l : List Tri) (v : ByteArray) : Bool := decide (plc l v < l.length) && decide ((at' l (plc l v)).s = v)
theorem plc_some {l : List Tri} {v : ByteArray} {k : Nat} (hk : k < l.length) (h : geB (at' l k).s v = true) (hn : ∀ j, j < k → geB (at' l j).s v = false) : plc l v = k := by
  have e : ∀ j (hj : j < l.length), at' l j = l[j] := fun j hj => by simp [at', hj]
  unfold plc
  rw [List.findIdx_eq hk]
  exact ⟨by rw [← e k hk]; exact h, fun j hj => by rw [← e j (by omega)]; exact hn j hj⟩
theorem plc_none {l : List Tri} {v : ByteArray} (h : ∀ j, j < l.length → geB (at' l j).s v = false) : plc l v = l.length := by
  unfold plc
  rw [List.findIdx_eq_length]
  intro t ht
  obtain ⟨j, hj, rfl⟩ := List.getElem_of_mem ht
  have := h j hj
  simpa [at', hj] using this
theorem hasB_at {l : List Tri} {v : ByteArray} {k : Nat} (hk : k < l.length) (h : geB (at' l k).s v = true) (hn : ∀ j, j < k → geB (at' l j).s v = false) : hasB l v = decide ((at' l k).s = v) := by
  unfold hasB; rw [plc_some hk h hn]; simp [hk]
theorem hasB_end {l : List Tri} {v : ByteArray} (h : ∀ j, j < l.length → geB (at' l j).s v = false) : hasB l v = false := by
  unfold hasB; rw [plc_none h]; simp
theorem geB_bl (a b : ByteArray) : geB a b = !blS a b := rfl
theorem asc_lt {l : List Tri} (h : ∀ i, i < l.length → ascB l i = true) : ∀ i j, i < j → j < l.length → blS (at' l i).s (at' l j).s = true := by
  have one : ∀ i, i + 1 < l.length → blS (at' l i).s (at' l (i + 1)).s = true := fun i hi => by
    have := h (i + 1) hi
    unfold ascB at this
    rw [geB_bl] at this
    simpa using this
  intro i j hij
  induction j with
  | zero => omega
  | succ j ih =>
    intro hj
    by_cases e : i = j
    · subst e; exact one i hj
    · exact blS_trans (ih (by omega) (by omega)) (one j hj)
/-- In a list that is ascending both say the same. -/
theorem has_mem {l : List Tri} {v : ByteArray} (h : ∀ i, i < l.length → ascB l i = true) : hasB l v = memB l v := by
  by_cases hm : ∃ k, k < l.length ∧ (at' l k).s = v
  · obtain ⟨k, hk, he⟩ := hm
    rw [memB_true hk he, hasB_at hk (by rw [he, geB_bl, blS_irrefl]; rfl) fun j hj => by rw [← he, geB_bl, asc_lt h j k hj hk]; rfl]
    simp [he]
  · rw [memB_false fun j hj he => hm ⟨j, hj, he⟩]
    unfold hasB
    rw [Bool.and_eq_false_iff]
    by_cases hp : plc l v < l.length
    · right; exact decide_eq_false fun he => hm ⟨_, hp, he⟩
    · left; exact decide_eq_false hp
theorem names_asc {l : List Tri} {m : Nat} (h : namesB l m = true) : ∀ i, i < l.length → ascB l i = true := fun i hi => by
  unfold namesB at h
  rw [Bool.and_eq_true] at h
  have := allB_get h.2 i hi
  rw [Bool.and_eq_true] at this
  exact this.2
theorem kinds_asc {l : List Tri} (h : kindsB l = true) : ∀ i, i < l.length → ascB l i = true := by
  unfold kindsB at h; rw [Bool.and_eq_true] at h; exact names_asc h.1
theorem points_asc {l : List Tri} (h : pointsB l = true) : ∀ i, i < l.length → ascB l i = true := by
  unfold pointsB at h; rw [Bool.and_eq_true] at h; exact names_asc h.1

/-- The word at a place. -/
def wat (ws : List ByteArray) (i : Nat) : ByteArray := ws.getD i ⟨#[]⟩
theorem wat_get {ws : List ByteArray} {i : Nat} (h : i < ws.length) : ws[i]? = some (wat ws i) := by simp [wat, h]
def numV (s : ByteArray) : Nat := numTo s s.size
def timeB (ws : List ByteArray) : Bool := decide (ws.length = 2) && (decB (wat ws 0) && (decB (wat ws 1) && (decide (numV (wat ws 0) ≤ numV (wat ws 1)) && decide (numV (wat ws 1) ≤ 10000))))
def levelB (s : ByteArray) : Bool := decB s && inB (numV s) 1 6
def stepB (ps : List Tri) (ws : List ByteArray) (i : Nat) : Bool := hasB ps (wat ws i) && !(decide (0 < i) && decide (wat ws (i - 1) = wat ws i))
def routeB (ps : List Tri) (ws : List ByteArray) : Bool := inB ws.length 2 8 && allB ws.length (stepB ps ws)
def openS : ByteArray := ⟨#[111, 112, 101, 110]⟩
def closedS : ByteArray := ⟨#[99, 108, 111, 115, 101, 100]⟩
def stateB (s : ByteArray) : Bool := decide (s = openS) || decide (s = closedS)
/-- What fits, in a base that is ok. -/
def valB2 (ks ps : List Tri) (what : Int) (s : ByteArray) : Bool :=
  if what = 1 then hasB ks s else if what = 2 then timeB (cutW s) else if what = 3 then levelB s else if what = 4 then routeB ps (cutW s) else if what = 5 then stateB s else false
def baseB (ks ps : List Tri) : Bool := kindsB ks && pointsB ps
def fitB (ks ps : List Tri) (c : Chg) : Bool := nameB c.f && (inB c.num 1 1000000 && valB2 ks ps c.what c.v)

theorem cutA_sizes : ∀ (r cur : List UInt8) (x : List UInt8), x ∈ cutA cur r → x.length ≤ cur.length + r.length
  | [], cur, x, h => by simp [cutA] at h; subst h; simp
  | c :: r, cur, x, h => by
    rw [cutA] at h
    split at h
    · rcases List.mem_cons.1 h with rfl | h
      · simp
      · have := cutA_sizes r [] x h; simp at this ⊢; omega
    · have := cutA_sizes r (cur ++ [c]) x h; simp at this ⊢; omega
theorem cutW_size (s : ByteArray) : ∀ x ∈ cutW s, x.size ≤ s.size := fun x hx => by
  unfold cutW at hx
  obtain ⟨l, hl, rfl⟩ := List.mem_map.1 hx
  have := cutA_sizes _ _ _ hl
  rw [bytes_length, List.length_nil, Nat.zero_add] at this
  exact this
theorem wat_size {s : ByteArray} {i : Nat} (h : i < (cutW s).length) : (wat (cutW s) i).size ≤ s.size := cutW_size s _ (List.mem_of_getElem? (wat_get h))
end Go.Proofs.YthccipaobeapbabGreatDoor
