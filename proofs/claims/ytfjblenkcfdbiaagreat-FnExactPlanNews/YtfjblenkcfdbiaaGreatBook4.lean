
/-
  Books: sizes, copies, comparisons.
-/
import Derived.Test.YtfjblenkcfdbiaaGreatBook3
namespace Go.Proofs.YtfjblenkcfdbiaaGreat
open Go.RowKit

/-- A book that lies in memory. -/
structure BookAt (w : World) (vk vp ve : Value) (ks ps : List Tri) (es : List Ent) : Prop where
  k : TrisAt w vk ks
  p : TrisAt w vp ps
  e : EntsAt w ve es
theorem BookAt.keep {w w' : World} {vk vp ve : Value} {ks ps : List Tri} {es : List Ent} (h : BookAt w vk vp ve ks ps es) (hb : Below w.heap.size w w') : BookAt w' vk vp ve ks ps es := ⟨h.k.keep hb, h.p.keep hb, h.e.keep hb⟩
structure BNames (ks ps : List Tri) (es : List Ent) : Prop where
  k : Names ks
  p : Names ps
  e : ENames es
/-- .. in blocks of its own. -/
structure BookOwn (lo : Nat) (w : World) (vk vp ve : Value) (ks ps : List Tri) (es : List Ent) : Prop where
  k : TrisOwn lo w vk ks
  p : TrisOwn lo w vp ps
  e : EntsOwn lo w ve es
  d : ∀ b n c b' n' c', vk = .slice (some ⟨b, 0, none⟩) n c ∨ vp = .slice (some ⟨b, 0, none⟩) n c → ve = .slice (some ⟨b', 0, none⟩) n' c' → b ≠ b'
theorem BookOwn.keep {lo : Nat} {w w' : World} {vk vp ve : Value} {ks ps : List Tri} {es : List Ent} (h : BookOwn lo w vk vp ve ks ps es) (hb : Below w.heap.size w w') : BookOwn lo w' vk vp ve ks ps es := ⟨h.k.keep hb, h.p.keep hb, h.e.keep hb, h.d⟩
def szBook (ks ps : List Tri) (es : List Ent) : Nat := szTris ks + szTris ps + szEnts es
/-- A book that is not too great: so its lists are not. -/
structure BSmall (ks ps : List Tri) (es : List Ent) : Prop where
  k : ks.length ≤ 1048576
  p : ps.length ≤ 1048576
  e : es.length ≤ 1048576
  f : ∀ e ∈ es, e.fs.length ≤ 1048576
  n : ∀ e ∈ es, e.name.size ≤ 1048576
  v : ∀ e ∈ es, ∀ f ∈ e.fs, f.v.size ≤ 1048576
theorem BSmall.of {ks ps : List Tri} {es : List Ent} (h : szBook ks ps es ≤ 1048576) : BSmall ks ps es := by
  unfold szBook szTris szEnts at h
  have one : ∀ e ∈ es, szEnt e ≤ 1048576 := fun e he => by have := sumN_mem szEnt es e he; omega
  refine ⟨by omega, by omega, by omega, fun e he => ?_, fun e he => ?_, fun e he f hf => ?_⟩
  · have := one e he; unfold szEnt szFlds at this; omega
  · have := one e he; unfold szEnt szFlds at this; omega
  · have := one e he; unfold szEnt szFlds at this; have h2 : f.v.size ≤ _ := sumN_mem (fun f : Fld => f.v.size) e.fs f hf; omega
theorem BookOwn.at {lo : Nat} {w : World} {vk vp ve : Value} {ks ps : List Tri} {es : List Ent} (h : BookOwn lo w vk vp ve ks ps es) (hs : BSmall ks ps es) : BookAt w vk vp ve ks ps es := ⟨h.k.at hs.k, h.p.at hs.p, h.e.at hs.e hs.f⟩

set_option maxHeartbeats 800000 in
theorem szBook_any (vk vp ve : Value) (ks ps : List Tri) (es : List Ent) (left : Int) (w : World) (hB : BookAt w vk vp ve ks ps es) (nB : BNames ks ps es) (hl : 0 ≤ left) (hl' : left ≤ 1048576) :
    Calls Tryz.prog 6 #[.agg #[vk, vp, ve], .int .i64 left] w fun e w' => e = .returned (.int .i64 (szR (szBook ks ps es) left)) ∧ Below w.heap.size w w' := by
  have HB : Hid (BookAt w vk vp ve ks ps es) := hB
  have NB : Hid (BNames ks ps es) := nB
  obtain ⟨⟨ak, ck, rfl, -, -, -⟩, ⟨ap, cp, rfl, -, -, -⟩, ⟨ae, ce, rfl, -, -, -⟩⟩ := hB
  have HZ : Hid (szBook ks ps es = szTris ks + szTris ps + szEnts es) := rfl
  have HX0 : Hid (OwnAt w (w.alloc (.cells #[.slice ak ks.length ck, .slice ap ps.length cp, .slice ae es.length ce] 28)) [[.slice ak ks.length ck, .slice ap ps.length cp, .slice ae es.length ce]]) := (OwnAt.start w).push rfl _ _
  clear nB
  go_enter Tryz.func6, Tryz.ntmps6
  go_wp2_with fail
  refine (szBase_any _ _ ks ps left _ (HB.out.k.keep HX0.out.below) (HB.out.p.keep HX0.out.below) NB.out.k NB.out.p hl hl').mono ?_
  rintro e w1 ⟨rfl, hb1⟩
  have HX1 : Hid (OwnAt w w1 _) := HX0.out.call hb1
  clear HX0 hb1
  by_cases h1 : ((szTris ks + szTris ps : Nat) : Int) ≤ left
  · rw [szR_pos h1]
    have hge : 0 ≤ left - ((szTris ks + szTris ps : Nat) : Int) := by omega
    have hle : left - ((szTris ks + szTris ps : Nat) : Int) ≤ 1048576 := by omega
    have HR : Hid (szR (szEnts es) (left - ((szTris ks + szTris ps : Nat) : Int)) = szR (szBook ks ps es) left ∧ -1 ≤ szR (szBook ks ps es) left) := by
      refine ⟨?_, (szR_le _ _ hl).2⟩
      rw [HZ.out]; unfold szR; split <;> split <;> omega
    generalize left - ((szTris ks + szTris ps : Nat) : Int) = r at *
    have y0 : w1.cell? ⟨w.heap.size, 0, none⟩ = some (.slice ak ks.length ck) := (HX1.out.has 0 _ rfl 0 _ rfl).1
    have y1 : w1.cell? ⟨w.heap.size, 1, none⟩ = some (.slice ap ps.length cp) := (HX1.out.has 0 _ rfl 1 _ rfl).1
    have y2 : w1.cell? ⟨w.heap.size, 2, none⟩ = some (.slice ae es.length ce) := (HX1.out.has 0 _ rfl 2 _ rfl).1
    clear h1
    go_wp2_with fail
    refine (szEntries_any _ es r _ (HB.out.e.keep HX1.out.below) NB.out.e hge hle).mono ?_
    rintro e w2 ⟨rfl, hb2⟩
    rw [HR.out.1]
    have h3 := HR.out.2
    have HFIN : Hid (Below w.heap.size w w2 ∧ ∀ q : Int, q = szR (szBook ks ps es) left → Ending.returned (.int .i64 q) = .returned (.int .i64 (szR (szBook ks ps es) left))) := ⟨below_step HX1.out.below hb2, fun q hq => by rw [hq]⟩
    generalize hq : szR (szBook ks ps es) left = q at *
    have HQ : Hid (szR (szBook ks ps es) left = q) := hq
    clear hq hb2
    by_cases h4 : q < 0
    · obtain rfl : q = -1 := by omega
      go_wp2
      go_ret
      exact ⟨ret_int HQ.out.symm, HFIN.out.1⟩
    · go_wp2
      go_ret
      exact ⟨ret_int HQ.out.symm, HFIN.out.1⟩
  · rw [szR_neg h1]
    have HQ : Hid (szR (szBook ks ps es) left = -1) := szR_neg (by rw [HZ.out]; omega)
    clear h1
    go_wp2
    go_ret
    exact ⟨ret_int HQ.out.symm, HX1.out.below⟩

set_option maxHeartbeats 800000 in
theorem eqBook_any (vk vp ve uk up ue : Value) (ks ps : List Tri) (es : List Ent) (w : World) (hB : BookAt w vk vp ve ks ps es) (hB' : BookAt w uk up ue ks ps es) :
    Calls Tryz.prog 12 #[.agg #[vk, vp, ve], .agg #[uk, up, ue]] w fun e w' => e = .returned (.bool true) ∧ Below w.heap.size w w' := by
  have HB : Hid (BookAt w vk vp ve ks ps es ∧ BookAt w uk up ue ks ps es) := ⟨hB, hB'⟩
  obtain ⟨⟨ak, ck, rfl, -, -, -⟩, ⟨ap, cp, rfl, -, -, -⟩, ⟨ae, ce, rfl, -, -, -⟩⟩ := hB
  obtain ⟨⟨ak', ck', rfl, -, -, -⟩, ⟨ap', cp', rfl, -, -, -⟩, ⟨ae', ce', rfl, -, -, -⟩⟩ := hB'
  have HX0 : Hid (OwnAt w ((w.alloc (.cells #[.slice ak ks.length ck, .slice ap ps.length cp, .slice ae es.length ce] 39)).alloc (.cells #[.slice ak' ks.length ck', .slice ap' ps.length cp', .slice ae' es.length ce'] 39)) [[.slice ak ks.length ck, .slice ap ps.length cp, .slice ae es.length ce], [.slice ak' ks.length ck', .slice ap' ps.length cp', .slice ae' es.length ce']]) := ((OwnAt.start w).push rfl _ _).push (by simp) _ _
  go_enter Tryz.func12, Tryz.ntmps12
  go_wp2_with fail
  refine (eqBase_any _ _ _ _ ks ps _ (HB.out.1.k.keep HX0.out.below) (HB.out.1.p.keep HX0.out.below) (HB.out.2.k.keep HX0.out.below) (HB.out.2.p.keep HX0.out.below)).mono ?_
  rintro e w1 ⟨rfl, hb1⟩
  have HX1 : Hid (OwnAt w w1 _) := HX0.out.call hb1
  clear HX0 hb1
  have y0 : w1.cell? ⟨w.heap.size, 0, none⟩ = some (.slice ak ks.length ck) := (HX1.out.has 0 _ rfl 0 _ rfl).1
  have y1 : w1.cell? ⟨w.heap.size, 1, none⟩ = some (.slice ap ps.length cp) := (HX1.out.has 0 _ rfl 1 _ rfl).1
  have y2 : w1.cell? ⟨w.heap.size, 2, none⟩ = some (.slice ae es.length ce) := (HX1.out.has 0 _ rfl 2 _ rfl).1
  have z0 : w1.cell? ⟨w.heap.size + 1, 0, none⟩ = some (.slice ak' ks.length ck') := (HX1.out.has 1 _ rfl 0 _ rfl).1
  have z1 : w1.cell? ⟨w.heap.size + 1, 1, none⟩ = some (.slice ap' ps.length cp') := (HX1.out.has 1 _ rfl 1 _ rfl).1
  have z2 : w1.cell? ⟨w.heap.size + 1, 2, none⟩ = some (.slice ae' es.length ce') := (HX1.out.has 1 _ rfl 2 _ rfl).1
  go_wp2_with fail
  refine (eqEntries_any _ _ es _ (HB.out.1.e.keep HX1.out.below) (HB.out.2.e.keep HX1.out.below)).mono ?_
  rintro e w2 ⟨rfl, hb2⟩
  go_wp2
  go_ret
  exact ⟨rfl, below_step HX1.out.below hb2⟩

set_option maxHeartbeats 1600000 in
theorem toBook_own (vk vp ve : Value) (ks ps : List Tri) (es : List Ent) (w : World) (hB : BookAt w vk vp ve ks ps es) (sB : BSmall ks ps es) :
    Calls Tryz.prog 9 #[.agg #[vk, vp, ve]] w fun e w' => ∃ uk up ue, e = .returned (.agg #[uk, up, ue]) ∧ BookOwn (w.heap.size + 3) w' uk up ue ks ps es ∧ Below w.heap.size w w' := by
  have HB : Hid (BookAt w vk vp ve ks ps es) := hB
  have SB : Hid (BSmall ks ps es) := sB
  obtain ⟨⟨ak, ck, rfl, -, -, -⟩, ⟨ap, cp, rfl, -, -, -⟩, ⟨ae, ce, rfl, -, -, -⟩⟩ := hB
  have HO0 : Hid (OwnAt w (((w.alloc (.cells #[.slice ak ks.length ck, .slice ap ps.length cp, .slice ae es.length ce] 28)).alloc (.cells #[.slice none 0 0, .slice none 0 0, .slice none 0 0] 39)).alloc (.cells #[.slice none 0 0, .slice none 0 0, .slice none 0 0] 39)) [[.slice ak ks.length ck, .slice ap ps.length cp, .slice ae es.length ce], [.slice none 0 0, .slice none 0 0, .slice none 0 0], [.slice none 0 0, .slice none 0 0, .slice none 0 0]]) :=
    (((OwnAt.start w).push rfl _ _).push (by simp) _ _).push (by simp) _ _
  clear sB
  go_enter Tryz.func9, Tryz.ntmps9
  go_wp2_with fail
  refine (toBase_own _ _ ks ps _ (HB.out.k.keep HO0.out.below) (HB.out.p.keep HO0.out.below) SB.out.k SB.out.p).mono ?_
  rintro e w1 ⟨uk, up, rfl, tk, tp, hb1⟩
  have HO1 : Hid (OwnAt w w1 _) := HO0.out.call hb1
  simp only [World.size_alloc] at tk tp
  have HT1 : Hid (TrisOwn (w.heap.size + 3) w1 uk ks ∧ TrisOwn (w.heap.size + 3) w1 up ps) := ⟨tk.mono (by omega), tp.mono (by omega)⟩
  obtain ⟨bk, -, hek, hbk⟩ := tk
  obtain ⟨bp, -, hep, hbp⟩ := tp
  subst hek hep
  have HBIG : Hid (bk < w1.heap.size ∧ bp < w1.heap.size) := ⟨hbk.big, hbp.big⟩
  clear hbk hbp
  clear HO0 hb1
  have HO2 : Hid (OwnAt w ((w1.setCell ⟨w.heap.size + 1 + 1, 0, none⟩ (.slice (some ⟨bk, 0, none⟩) ks.length ks.length)).setCell ⟨w.heap.size + 1 + 1, 1, none⟩ (.slice (some ⟨bp, 0, none⟩) ps.length ps.length)) [[.slice ak ks.length ck, .slice ap ps.length cp, .slice ae es.length ce], [.slice none 0 0, .slice none 0 0, .slice none 0 0], [.slice (some ⟨bk, 0, none⟩) ks.length ks.length, .slice (some ⟨bp, 0, none⟩) ps.length ps.length, .slice none 0 0]]) :=
    (HO1.out.set (i := 2) (j := 0) rfl (by simp) _).set (i := 2) (j := 1) rfl (by simp) _
  have HT2 : Hid (TrisOwn (w.heap.size + 3) ((w1.setCell ⟨w.heap.size + 1 + 1, 0, none⟩ (.slice (some ⟨bk, 0, none⟩) ks.length ks.length)).setCell ⟨w.heap.size + 1 + 1, 1, none⟩ (.slice (some ⟨bp, 0, none⟩) ps.length ps.length)) (.slice (some ⟨bk, 0, none⟩) ks.length ks.length) ks ∧ TrisOwn (w.heap.size + 3) ((w1.setCell ⟨w.heap.size + 1 + 1, 0, none⟩ (.slice (some ⟨bk, 0, none⟩) ks.length ks.length)).setCell ⟨w.heap.size + 1 + 1, 1, none⟩ (.slice (some ⟨bp, 0, none⟩) ps.length ps.length)) (.slice (some ⟨bp, 0, none⟩) ps.length ps.length) ps) :=
    ⟨(HT1.out.1.other (by omega) _).other (by omega) _, (HT1.out.2.other (by omega) _).other (by omega) _⟩
  have d0 : w1.cell? ⟨w.heap.size, 0, none⟩ = some (.slice ak ks.length ck) := (HO1.out.has 0 _ rfl 0 _ rfl).1
  have d1 : w1.cell? ⟨w.heap.size, 1, none⟩ = some (.slice ap ps.length cp) := (HO1.out.has 0 _ rfl 1 _ rfl).1
  have d2 : w1.cell? ⟨w.heap.size, 2, none⟩ = some (.slice ae es.length ce) := (HO1.out.has 0 _ rfl 2 _ rfl).1
  have o0 : w1.cell? ⟨w.heap.size + 1 + 1, 0, none⟩ = some (.slice none 0 0) := (HO1.out.has 2 _ rfl 0 _ rfl).1
  have o1 : w1.cell? ⟨w.heap.size + 1 + 1, 1, none⟩ = some (.slice none 0 0) := (HO1.out.has 2 _ rfl 1 _ rfl).1
  have o2 : w1.cell? ⟨w.heap.size + 1 + 1, 2, none⟩ = some (.slice none 0 0) := (HO1.out.has 2 _ rfl 2 _ rfl).1
  have f0 : w1.frozen? ⟨w.heap.size + 1 + 1, 0, none⟩ = false := (HO1.out.has 2 _ rfl 0 _ rfl).2
  have f1 : w1.frozen? ⟨w.heap.size + 1 + 1, 1, none⟩ = false := (HO1.out.has 2 _ rfl 1 _ rfl).2
  go_wp2_with fail
  refine (toEntries_own _ es _ (HB.out.e.keep HO2.out.below) SB.out.e SB.out.f).mono ?_
  rintro e w2 ⟨ue, rfl, te, hb2⟩
  have HO3 : Hid (OwnAt w w2 _) := HO2.out.call hb2
  have hlo := HO2.out.big
  have HT3 : Hid (TrisOwn (w.heap.size + 3) w2 _ ks ∧ TrisOwn (w.heap.size + 3) w2 _ ps ∧ EntsOwn (w.heap.size + 3) w2 ue es) := ⟨HT2.out.1.keep hb2, HT2.out.2.keep hb2, te.mono hlo⟩
  obtain ⟨be, rows, hbe, hee, -, -, -⟩ := te
  have HSEP : Hid (bk ≠ be ∧ bp ≠ be) := by
    have h1 := HBIG.out.1
    have h2 := HBIG.out.2
    simp at hbe
    exact ⟨by omega, by omega⟩
  clear hbe
  subst hee
  clear HO2 HT2 HO1 HT1 d0 d1 d2 o0 o1 o2 f0 f1 hlo hb2
  have q0 : w2.cell? ⟨w.heap.size + 1, 0, none⟩ = some (.slice none 0 0) := (HO3.out.has 1 _ rfl 0 _ rfl).1
  have q1 : w2.cell? ⟨w.heap.size + 1, 1, none⟩ = some (.slice none 0 0) := (HO3.out.has 1 _ rfl 1 _ rfl).1
  have q2 : w2.cell? ⟨w.heap.size + 1, 2, none⟩ = some (.slice none 0 0) := (HO3.out.has 1 _ rfl 2 _ rfl).1
  have p0 : w2.cell? ⟨w.heap.size + 1 + 1, 0, none⟩ = some (.slice (some ⟨bk, 0, none⟩) ks.length ks.length) := (HO3.out.has 2 _ rfl 0 _ rfl).1
  have p1 : w2.cell? ⟨w.heap.size + 1 + 1, 1, none⟩ = some (.slice (some ⟨bp, 0, none⟩) ps.length ps.length) := (HO3.out.has 2 _ rfl 1 _ rfl).1
  have p2 : w2.cell? ⟨w.heap.size + 1 + 1, 2, none⟩ = some (.slice none 0 0) := (HO3.out.has 2 _ rfl 2 _ rfl).1
  have g0 : w2.frozen? ⟨w.heap.size + 1, 0, none⟩ = false := (HO3.out.has 1 _ rfl 0 _ rfl).2
  have g1 : w2.frozen? ⟨w.heap.size + 1, 1, none⟩ = false := (HO3.out.has 1 _ rfl 1 _ rfl).2
  have g2 : w2.frozen? ⟨w.heap.size + 1, 2, none⟩ = false := (HO3.out.has 1 _ rfl 2 _ rfl).2
  have g3 : w2.frozen? ⟨w.heap.size + 1 + 1, 2, none⟩ = false := (HO3.out.has 2 _ rfl 2 _ rfl).2
  go_wp2
  refine bodyPost_ret (v := .agg #[.slice (some ⟨bk, 0, none⟩) ks.length ks.length, .slice (some ⟨bp, 0, none⟩) ps.length ps.length, .slice (some ⟨be, 0, none⟩) es.length es.length]) (by simp [results, Tryz.results9, go_sem, *]) rfl ⟨_, _, _, rfl, ⟨(((HT3.out.1.other (by omega) _).other (by omega) _).other (by omega) _).other (by omega) _, (((HT3.out.2.1.other (by omega) _).other (by omega) _).other (by omega) _).other (by omega) _, (((HT3.out.2.2.other (by omega) _).other (by omega) _).other (by omega) _).other (by omega) _, fun b n c b' n' c' h1 h2 => by
    cases h2
    rcases h1 with h1 | h1 <;> cases h1
    · exact HSEP.out.1
    · exact HSEP.out.2⟩, ?_⟩
  exact below_set (below_set (below_set (below_set HO3.out.below _ _ (by omega) _) _ _ (by omega) _) _ _ (by omega) _) _ _ (by omega) _
end Go.Proofs.YtfjblenkcfdbiaaGreat
