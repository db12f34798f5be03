/-
  For the proof of take_holds: part 6 (Book3, Book4, Dec, Cut, Words, Bl).
-/
import Derived.Test.YtfjblenkcfdbiaaGreatRowTakeJ5
/-
  Copies of entries and of books; comparisons; sizes.
-/
namespace Go.Proofs.YtfjblenkcfdbiaaGreat
open Go.RowKit

/-- Entries in blocks of their own, from lo on. -/
def EntsOwn (lo : Nat) (w : World) (v : Value) (l : List Ent) : Prop :=
  ∃ (b : Nat) (rows : List (List Value)), lo ≤ b ∧ v = .slice (some ⟨b, 0, none⟩) l.length l.length ∧ HeldL w b l.length 2 rows ∧ rows.length = l.length ∧
    ∀ (i : Nat) (e : Ent), l[i]? = some e → ∃ fb : Nat, fb ≠ b ∧ lo ≤ fb ∧ rows[i]? = some [.string e.name, .slice (some ⟨fb, 0, none⟩) e.fs.length e.fs.length] ∧ HeldL w fb e.fs.length 3 (e.fs.map fldRow)
theorem HeldL.flds {wr : World} {B n : Nat} {l : List Fld} (h : HeldL wr B n 3 (l.map fldRow)) (hn : l.length = n) (cap : Nat) (hc : n ≤ cap) (hm : cap ≤ maxLen) : FldsAt wr (.slice (some ⟨B, 0, none⟩) n cap) l :=
  ⟨some ⟨B, 0, none⟩, cap, by rw [hn], by omega, hm, fun i f hf => ⟨B, 0, rfl, by
    have hr : (l.map fldRow)[i]? = some (fldRow f) := by rw [List.getElem?_map, hf]; rfl
    refine ⟨?_, ?_, ?_⟩
    · simpa using h.cell hr (j := 0) (v := .int .i64 f.what) rfl
    · simpa using h.cell hr (j := 1) (v := .int .i64 f.num) rfl
    · simpa using h.cell hr (j := 2) (v := .string f.v) rfl⟩⟩
theorem EntsOwn.at {lo : Nat} {w : World} {v : Value} {l : List Ent} (h : EntsOwn lo w v l) (hm : l.length ≤ 1048576) (hf : ∀ e ∈ l, e.fs.length ≤ 1048576) : EntsAt w v l := by
  obtain ⟨b, rows, _, rfl, hh, _, hr⟩ := h
  refine ⟨some ⟨b, 0, none⟩, l.length, rfl, Nat.le_refl _, by unfold maxLen; omega, fun i e he => ⟨b, 0, rfl, ?_⟩⟩
  obtain ⟨fb, _, _, h1, h2⟩ := hr i e he
  refine ⟨_, ?_, ?_, h2.flds rfl _ (Nat.le_refl _) (by have := hf e (List.mem_of_getElem? he); unfold maxLen; omega)⟩
  · simpa using hh.cell h1 (j := 0) rfl
  · simpa using hh.cell h1 (j := 1) rfl
theorem EntsOwn.keep {lo : Nat} {w w' : World} {v : Value} {l : List Ent} (h : EntsOwn lo w v l) (hb : Below w.heap.size w w') : EntsOwn lo w' v l := by
  obtain ⟨b, rows, hl, hv, hh, hn, hr⟩ := h
  refine ⟨b, rows, hl, hv, hh.keep hb, hn, fun i e he => ?_⟩
  obtain ⟨fb, h0, h1, h2, h3⟩ := hr i e he
  exact ⟨fb, h0, h1, h2, h3.keep hb⟩
theorem EntsOwn.other {lo : Nat} {w : World} {v : Value} {l : List Ent} (h : EntsOwn lo w v l) {k o : Nat} (hk : k < lo) (x : Value) : EntsOwn lo (w.setCell ⟨k, o, none⟩ x) v l := by
  obtain ⟨b, rows, hl, hv, hh, hn, hr⟩ := h
  refine ⟨b, rows, hl, hv, hh.other (by omega) x, hn, fun i e he => ?_⟩
  obtain ⟨fb, h0, h1, h2, h3⟩ := hr i e he
  exact ⟨fb, h0, h1, h2, h3.other (by omega) x⟩
theorem EntsOwn.mono {lo lo' : Nat} {w : World} {v : Value} {l : List Ent} (h : EntsOwn lo w v l) (hlo : lo' ≤ lo) : EntsOwn lo' w v l := by
  obtain ⟨b, rows, hl, hv, hh, hn, hr⟩ := h
  refine ⟨b, rows, by omega, hv, hh, hn, fun i e he => ?_⟩
  obtain ⟨fb, h0, h1, h2, h3⟩ := hr i e he
  exact ⟨fb, h0, by omega, h2, h3⟩

set_option maxHeartbeats 1600000 in
theorem toEntry_own (e : Ent) (fv : Value) (w : World) (hv : FldsAt w fv e.fs) (hn : e.fs.length ≤ 1048576) :
    Calls Tryz.prog 62 #[.agg #[.string e.name, fv]] w fun x w' => ∃ fb : Nat, w.heap.size + 3 ≤ fb ∧ x = .returned (.agg #[.string e.name, .slice (some ⟨fb, 0, none⟩) e.fs.length e.fs.length]) ∧ HeldL w' fb e.fs.length 3 (e.fs.map fldRow) ∧ Below w.heap.size w w' := by
  have HV : Hid (FldsAt w fv e.fs) := hv
  obtain ⟨a, cap, rfl, -, -, -⟩ := hv
  obtain ⟨nm, fs⟩ := e
  dsimp only at *
  have HO0 : Hid (OwnAt w (((w.alloc (.cells #[.string nm, .slice a fs.length cap] 88)).alloc (.cells #[.string ⟨#[]⟩, .slice none 0 0] 73)).alloc (.cells #[.string nm, .slice none 0 0] 73)) [[.string nm, .slice a fs.length cap], [.string ⟨#[]⟩, .slice none 0 0], [.string nm, .slice none 0 0]]) :=
    (((OwnAt.start w).push rfl _ _).push (by simp) _ _).push (by simp) _ _
  go_enter Tryz.func62, Tryz.ntmps62
  go_wp2_with fail
  refine (toFields_any _ fs _ (HV.out.keep HO0.out.below) hn).mono ?_
  rintro x w1 ⟨rfl, hf1⟩
  have HO1 : Hid (OwnAt w w1 _) := HO0.out.call hf1.below
  simp only [World.size_alloc] at hf1 ⊢
  have HH : Hid (HeldL w1 (w.heap.size + 1 + 1 + 1) fs.length 3 (fs.map fldRow)) := hf1.held
  clear hf1 HO0
  have q0 : w1.cell? ⟨w.heap.size + 1, 0, none⟩ = some (.string ⟨#[]⟩) := (HO1.out.has 1 _ rfl 0 _ rfl).1
  have q1 : w1.cell? ⟨w.heap.size + 1, 1, none⟩ = some (.slice none 0 0) := (HO1.out.has 1 _ rfl 1 _ rfl).1
  have p0 : w1.cell? ⟨w.heap.size + 1 + 1, 0, none⟩ = some (.string nm) := (HO1.out.has 2 _ rfl 0 _ rfl).1
  have p1 : w1.cell? ⟨w.heap.size + 1 + 1, 1, none⟩ = some (.slice none 0 0) := (HO1.out.has 2 _ rfl 1 _ rfl).1
  have g0 : w1.frozen? ⟨w.heap.size + 1, 0, none⟩ = false := (HO1.out.has 1 _ rfl 0 _ rfl).2
  have g1 : w1.frozen? ⟨w.heap.size + 1, 1, none⟩ = false := (HO1.out.has 1 _ rfl 1 _ rfl).2
  have g2 : w1.frozen? ⟨w.heap.size + 1 + 1, 1, none⟩ = false := (HO1.out.has 2 _ rfl 1 _ rfl).2
  go_wp2
  refine bodyPost_ret (v := .agg #[.string nm, .slice (some ⟨w.heap.size + 1 + 1 + 1, 0, none⟩) fs.length fs.length]) (by simp [results, Tryz.results62, go_sem, *]) rfl ⟨w.heap.size + 1 + 1 + 1, by omega, rfl, ((HH.out.other (by omega) _).other (by omega) _).other (by omega) _, ?_⟩
  exact below_set (below_set (below_set HO1.out.below _ _ (by omega) _) _ _ (by omega) _) _ _ (by omega) _

/-- The first k entries are copied. -/
structure EntsTo (w wr : World) (B : Nat) (l : List Ent) (k : Nat) (rows : List (List Value)) : Prop where
  fill : FilledL w wr B l.length 2 rows
  len : rows.length = k
  has : ∀ (i : Nat) (e : Ent), i < k → l[i]? = some e → ∃ fb : Nat, fb ≠ B ∧ w.heap.size ≤ fb ∧ rows[i]? = some [.string e.name, .slice (some ⟨fb, 0, none⟩) e.fs.length e.fs.length] ∧ HeldL wr fb e.fs.length 3 (e.fs.map fldRow)
theorem setCells_held {wr : World} {B o : Nat} {vs : List Value} {b n c : Nat} {rows : List (List Value)} (h : HeldL wr b n c rows) (hb : B ≠ b) : HeldL (wr.setCells B o vs) b n c rows := by
  induction vs generalizing wr o with
  | nil => exact h
  | cons v vs ih => exact ih (h.other hb v)
theorem EntsTo.next {w wr w1 : World} {B k fb : Nat} {l : List Ent} {rows : List (List Value)} {e : Ent} (h : EntsTo w wr B l k rows) (hk : k < l.length) (he : l[k]? = some e) (hb : Below wr.heap.size wr w1) (hfb : wr.heap.size ≤ fb) (hh : HeldL w1 fb e.fs.length 3 (e.fs.map fldRow)) :
    EntsTo w (w1.setCells B (k * 2) [.string e.name, .slice (some ⟨fb, 0, none⟩) e.fs.length e.fs.length]) B l (k + 1) (rows ++ [[.string e.name, .slice (some ⟨fb, 0, none⟩) e.fs.length e.fs.length]]) := by
  have hne : B ≠ fb := by have := h.fill.big; omega
  have hst := (h.fill.call hb).store (r := [.string e.name, .slice (some ⟨fb, 0, none⟩) e.fs.length e.fs.length]) (by rw [h.len]; exact hk) rfl
  rw [h.len] at hst
  refine ⟨hst, by simp [h.len], fun i e' hi he' => ?_⟩
  by_cases ei : i = k
  · subst ei
    rw [he] at he'; cases he'
    refine ⟨fb, Ne.symm hne, by have := h.fill.below.size; omega, ?_, setCells_held hh hne⟩
    rw [List.getElem?_append_right (by rw [h.len]; exact Nat.le_refl _), h.len]; simp
  · obtain ⟨fb', h0, h1, h2, h3⟩ := h.has i e' (by omega) he'
    refine ⟨fb', h0, h1, ?_, setCells_held (h3.keep hb) (Ne.symm h0)⟩
    rw [List.getElem?_append_left (by rw [h.len]; omega)]; exact h2
theorem EntsTo.done {w wr : World} {B lo : Nat} {l : List Ent} {rows : List (List Value)} (h : EntsTo w wr B l l.length rows) (hlo : lo ≤ w.heap.size) : EntsOwn lo wr (.slice (some ⟨B, 0, none⟩) l.length l.length) l :=
  ⟨B, rows, by have := h.fill.old; omega, rfl, h.fill.held, h.len, fun i e he => by
    obtain ⟨fb, h0, h1, h2, h3⟩ := h.has i e (List.getElem?_eq_some_iff.1 he).1 he
    exact ⟨fb, h0, by omega, h2, h3⟩⟩

set_option maxHeartbeats 1600000 in
theorem toEntries_own (v : Value) (l : List Ent) (w : World) (hv : EntsAt w v l) (hn : l.length ≤ 1048576) (hf : ∀ e ∈ l, e.fs.length ≤ 1048576) :
    Calls Tryz.prog 30 #[v] w fun x w' => ∃ u, x = .returned u ∧ EntsOwn w.heap.size w' u l ∧ Below w.heap.size w w' := by
  obtain ⟨a, cap, rfl, hlc, hcm, hc⟩ := hv
  unfold maxLen at hcm
  have HC : Hid (∀ i f, l[i]? = some f → ∃ b off, a = some ⟨b, off, none⟩ ∧ EntAt w b (off + i * 2) f) := hc
  have HF : Hid (∀ e ∈ l, e.fs.length ≤ 1048576) := hf
  clear hc hf
  obtain ⟨i0, hi, hz0, hz1, hz2⟩ := info_parts infoEntry
  have hmk : ∀ w : World, (Instr.makeSlice 37 (.int .i64 (l.length : Int)) (.int .i64 (l.length : Int))).run Tryz.prog w = .ok (.slice (some ⟨w.heap.size, 0, none⟩) l.length l.length) (w.alloc (.cells (madeCells (Value.agg #[.string ByteArray.empty, .slice none 0 0]).cells (l.length * 2)) 73)) := fun w => by
    have h := run_make (P := Tryz.prog) w 37 73 i0 _ Tryz.underlying37 hi hz0 .i64 .i64 l.length l.length (by omega) (by omega) (by rw [hz2]; omega) (by omega)
    rw [hz1] at h
    simpa using h
  have HM : Hid ((madeCells (Value.agg #[.string ByteArray.empty, .slice none 0 0]).cells (l.length * 2)).size = l.length * 2) := size_madeCells _ _
  generalize madeCells (Value.agg #[.string ByteArray.empty, .slice none 0 0]).cells (l.length * 2) = C at hmk HM
  clear hi hz0 hz1 hz2
  go_enter Tryz.func30, Tryz.ntmps30
  go_wp2
  go_loopw [4] (fun i wr => ∃ (k : Nat) (rows : List (List Value)), k ≤ l.length ∧ i = .int .i64 k ∧ EntsTo w wr w.heap.size l k rows) (fun i _ => l.length - (intOf i).toNat)
  case atStart => exact ⟨0, [], Nat.zero_le _, rfl, FilledL.start w C _ _ _ HM.out, rfl, fun i e hi => absurd hi (Nat.not_lt_zero _)⟩
  case round =>
    obtain ⟨k, rows, hk, rfl, hf⟩ := hrel
    by_cases hlt : k < l.length
    · obtain ⟨b, off, rfl, hc⟩ := HC.out k _ (eat_get hlt)
      obtain ⟨fv, d0, d1, hfl⟩ := (hc.keep hf.fill.below)
      have HFL : Hid (FldsAt wr fv (eat l k).fs) := hfl
      have HK : Hid (l[k]? = some (eat l k)) := eat_get hlt
      have HFK : Hid ((eat l k).fs.length ≤ 1048576) := HF.out _ (List.mem_of_getElem? (eat_get hlt))
      obtain ⟨fa, fc, rfl, -, -, -⟩ := hfl
      clear hc HC
      generalize eat l k = t at *
      have hk0 : (0 : Int) ≤ (k : Int) := by omega
      have hk1 : (k : Int) < (l.length : Int) := by omega
      go_wp2_with fail
      refine (toEntry_own t _ _ HFL.out HFK.out).mono ?_
      rintro x w1 ⟨fb, hfb, rfl, hh, hb1⟩
      have hf1 := hf.fill.call hb1
      obtain ⟨⟨v0, e0⟩, f0⟩ := hf1.free hlt (j := 0) (by omega)
      obtain ⟨⟨v1, e1⟩, f1⟩ := hf1.free hlt (j := 1) (by omega)
      simp only [Nat.add_zero] at e0 f0
      have hnext := hf.next hlt HK.out hb1 (by omega) hh
      have HN : Hid (EntsTo w (w1.setCells w.heap.size (k * 2) [.string t.name, .slice (some ⟨fb, 0, none⟩) t.fs.length t.fs.length]) w.heap.size l (k + 1) _) := hnext
      clear hf1 hnext hh hb1
      go_wp2
      exact ⟨⟨k + 1, _, by omega, by go_num, HN.out⟩, by simp [intOf]; omega⟩
    · go_wp2
      go_ret
      obtain rfl : k = l.length := by omega
      exact ⟨_, rfl, hf.done (Nat.le_refl _), hf.fill.below⟩

set_option maxHeartbeats 800000 in
theorem eqEntries_any (v v' : Value) (l : List Ent) (w : World) (hv : EntsAt w v l) (hv' : EntsAt w v' l) :
    Calls Tryz.prog 36 #[v, v'] w fun e w' => e = .returned (.bool true) ∧ Below w.heap.size w w' := by
  obtain ⟨a, cap, rfl, hlc, hcm, hc⟩ := hv
  obtain ⟨a', cap', rfl, hlc', hcm', hc'⟩ := hv'
  unfold maxLen at hcm hcm'
  have HC : Hid (∀ i f, l[i]? = some f → ∃ b off, a = some ⟨b, off, none⟩ ∧ EntAt w b (off + i * 2) f) := hc
  have HC' : Hid (∀ i f, l[i]? = some f → ∃ b off, a' = some ⟨b, off, none⟩ ∧ EntAt w b (off + i * 2) f) := hc'
  clear hc hc'
  go_enter Tryz.func36, Tryz.ntmps36
  go_wp2
  go_loopw [5] (fun i w' => ∃ k : Nat, k ≤ l.length ∧ i = .int .i64 k ∧ Below w.heap.size w w') (fun i _ => l.length - (intOf i).toNat)
  case atStart => exact ⟨0, Nat.zero_le _, rfl, Below.refl _ _⟩
  case round =>
    obtain ⟨k, hk, rfl, hb⟩ := hrel
    by_cases hlt : k < l.length
    · obtain ⟨b, off, rfl, hc⟩ := HC.out k _ (eat_get hlt)
      obtain ⟨b', off', rfl, hc'⟩ := HC'.out k _ (eat_get hlt)
      obtain ⟨fv, d0, d1, hfl⟩ := hc.keep hb
      obtain ⟨fv', d0', d1', hfl'⟩ := hc'.keep hb
      have HFL : Hid (FldsAt wr fv (eat l k).fs ∧ FldsAt wr fv' (eat l k).fs) := ⟨hfl, hfl'⟩
      obtain ⟨fa, fc, rfl, -, -, -⟩ := hfl
      obtain ⟨fa', fc', rfl, -, -, -⟩ := hfl'
      clear hc hc' HC HC'
      generalize eat l k = t at *
      have hk0 : (0 : Int) ≤ (k : Int) := by omega
      have hk1 : (k : Int) < (l.length : Int) := by omega
      go_wp2
      go_region_held3 (fun w' => (w'.cell? ⟨b, off + k * 2, none⟩ = some (.string t.name) ∧ w'.cell? ⟨b, off + k * 2 + 1, none⟩ = some (.slice fa t.fs.length fc) ∧
          w'.cell? ⟨b', off' + k * 2, none⟩ = some (.string t.name) ∧ w'.cell? ⟨b', off' + k * 2 + 1, none⟩ = some (.slice fa' t.fs.length fc')) ∧ Below wr.heap.size wr w')
        (first | exact ⟨⟨by simpa using d0, by simpa using d1, by simpa using d0', by simpa using d1'⟩, (Below.refl _ _).drew⟩ | (obtain ⟨⟨s0, s1, s2, s3⟩, s4⟩ := ‹_ ∧ Below wr.heap.size wr _›; exact ⟨⟨cell_keep hb1 (Nat.le_refl _) s0, cell_keep hb1 (Nat.le_refl _) s1, cell_keep hb1 (Nat.le_refl _) s2, cell_keep hb1 (Nat.le_refl _) s3⟩, below_step s4 hb1⟩))
        (first | (go_at_call 76; refine (eqEntry_any t _ _ _ (HFL.out.1.keep (‹_ ∧ Below wr.heap.size wr _›).2) (HFL.out.2.keep (‹_ ∧ Below wr.heap.size wr _›).2)).mono ?_; rintro e w1 ⟨rfl, hb1⟩))
      go_wp2
      exact ⟨⟨k + 1, by omega, by go_num, below_step hb (‹_ ∧ Below wr.heap.size wr w1›).2⟩, by simp [intOf]; omega⟩
    · go_wp2
      go_ret
      exact ⟨rfl, hb⟩
end Go.Proofs.YtfjblenkcfdbiaaGreat

/-
  Books: sizes, copies, comparisons.
-/
namespace Go.Proofs.YtfjblenkcfdbiaaGreat
open Go.RowKit

/-- A book that lies in memory. -/
structure BookAt (w : World) (vk vp ve : Value) (ks ps : List Tri) (es : List Ent) : Prop where
  k : TrisAt w vk ks
  p : TrisAt w vp ps
  e : EntsAt w ve es
theorem BookAt.keep {w w' : World} {vk vp ve : Value} {ks ps : List Tri} {es : List Ent} (h : BookAt w vk vp ve ks ps es) (hb : Below w.heap.size w w') : BookAt w' vk vp ve ks ps es := ⟨h.k.keep hb, h.p.keep hb, h.e.keep hb⟩
structure BNames (ks ps : List Tri) (es : List Ent) : Prop where
  k : Names ks
  p : Names ps
  e : ENames es
/-- .. in blocks of its own. -/
structure BookOwn (lo : Nat) (w : World) (vk vp ve : Value) (ks ps : List Tri) (es : List Ent) : Prop where
  k : TrisOwn lo w vk ks
  p : TrisOwn lo w vp ps
  e : EntsOwn lo w ve es
  d : ∀ b n c b' n' c', vk = .slice (some ⟨b, 0, none⟩) n c ∨ vp = .slice (some ⟨b, 0, none⟩) n c → ve = .slice (some ⟨b', 0, none⟩) n' c' → b ≠ b'
theorem BookOwn.keep {lo : Nat} {w w' : World} {vk vp ve : Value} {ks ps : List Tri} {es : List Ent} (h : BookOwn lo w vk vp ve ks ps es) (hb : Below w.heap.size w w') : BookOwn lo w' vk vp ve ks ps es := ⟨h.k.keep hb, h.p.keep hb, h.e.keep hb, h.d⟩
def szBook (ks ps : List Tri) (es : List Ent) : Nat := szTris ks + szTris ps + szEnts es
/-- A book that is not too great: so its lists are not. -/
structure BSmall (ks ps : List Tri) (es : List Ent) : Prop where
  k : ks.length ≤ 1048576
  p : ps.length ≤ 1048576
  e : es.length ≤ 1048576
  f : ∀ e ∈ es, e.fs.length ≤ 1048576
  n : ∀ e ∈ es, e.name.size ≤ 1048576
  v : ∀ e ∈ es, ∀ f ∈ e.fs, f.v.size ≤ 1048576
theorem BSmall.of {ks ps : List Tri} {es : List Ent} (h : szBook ks ps es ≤ 1048576) : BSmall ks ps es := by
  unfold szBook szTris szEnts at h
  have one : ∀ e ∈ es, szEnt e ≤ 1048576 := fun e he => by have := sumN_mem szEnt es e he; omega
  refine ⟨by omega, by omega, by omega, fun e he => ?_, fun e he => ?_, fun e he f hf => ?_⟩
  · have := one e he; unfold szEnt szFlds at this; omega
  · have := one e he; unfold szEnt szFlds at this; omega
  · have := one e he; unfold szEnt szFlds at this; have h2 : f.v.size ≤ _ := sumN_mem (fun f : Fld => f.v.size) e.fs f hf; omega
theorem BookOwn.at {lo : Nat} {w : World} {vk vp ve : Value} {ks ps : List Tri} {es : List Ent} (h : BookOwn lo w vk vp ve ks ps es) (hs : BSmall ks ps es) : BookAt w vk vp ve ks ps es := ⟨h.k.at hs.k, h.p.at hs.p, h.e.at hs.e hs.f⟩

set_option maxHeartbeats 800000 in
theorem szBook_any (vk vp ve : Value) (ks ps : List Tri) (es : List Ent) (left : Int) (w : World) (hB : BookAt w vk vp ve ks ps es) (nB : BNames ks ps es) (hl : 0 ≤ left) (hl' : left ≤ 1048576) :
    Calls Tryz.prog 6 #[.agg #[vk, vp, ve], .int .i64 left] w fun e w' => e = .returned (.int .i64 (szR (szBook ks ps es) left)) ∧ Below w.heap.size w w' := by
  have HB : Hid (BookAt w vk vp ve ks ps es) := hB
  have NB : Hid (BNames ks ps es) := nB
  obtain ⟨⟨ak, ck, rfl, -, -, -⟩, ⟨ap, cp, rfl, -, -, -⟩, ⟨ae, ce, rfl, -, -, -⟩⟩ := hB
  have HZ : Hid (szBook ks ps es = szTris ks + szTris ps + szEnts es) := rfl
  have HX0 : Hid (OwnAt w (w.alloc (.cells #[.slice ak ks.length ck, .slice ap ps.length cp, .slice ae es.length ce] 28)) [[.slice ak ks.length ck, .slice ap ps.length cp, .slice ae es.length ce]]) := (OwnAt.start w).push rfl _ _
  clear nB
  go_enter Tryz.func6, Tryz.ntmps6
  go_wp2_with fail
  refine (szBase_any _ _ ks ps left _ (HB.out.k.keep HX0.out.below) (HB.out.p.keep HX0.out.below) NB.out.k NB.out.p hl hl').mono ?_
  rintro e w1 ⟨rfl, hb1⟩
  have HX1 : Hid (OwnAt w w1 _) := HX0.out.call hb1
  clear HX0 hb1
  by_cases h1 : ((szTris ks + szTris ps : Nat) : Int) ≤ left
  · rw [szR_pos h1]
    have hge : 0 ≤ left - ((szTris ks + szTris ps : Nat) : Int) := by omega
    have hle : left - ((szTris ks + szTris ps : Nat) : Int) ≤ 1048576 := by omega
    have HR : Hid (szR (szEnts es) (left - ((szTris ks + szTris ps : Nat) : Int)) = szR (szBook ks ps es) left ∧ -1 ≤ szR (szBook ks ps es) left) := by
      refine ⟨?_, (szR_le _ _ hl).2⟩
      rw [HZ.out]; unfold szR; split <;> split <;> omega
    generalize left - ((szTris ks + szTris ps : Nat) : Int) = r at *
    have y0 : w1.cell? ⟨w.heap.size, 0, none⟩ = some (.slice ak ks.length ck) := (HX1.out.has 0 _ rfl 0 _ rfl).1
    have y1 : w1.cell? ⟨w.heap.size, 1, none⟩ = some (.slice ap ps.length cp) := (HX1.out.has 0 _ rfl 1 _ rfl).1
    have y2 : w1.cell? ⟨w.heap.size, 2, none⟩ = some (.slice ae es.length ce) := (HX1.out.has 0 _ rfl 2 _ rfl).1
    clear h1
    go_wp2_with fail
    refine (szEntries_any _ es r _ (HB.out.e.keep HX1.out.below) NB.out.e hge hle).mono ?_
    rintro e w2 ⟨rfl, hb2⟩
    rw [HR.out.1]
    have h3 := HR.out.2
    have HFIN : Hid (Below w.heap.size w w2 ∧ ∀ q : Int, q = szR (szBook ks ps es) left → Ending.returned (.int .i64 q) = .returned (.int .i64 (szR (szBook ks ps es) left))) := ⟨below_step HX1.out.below hb2, fun q hq => by rw [hq]⟩
    generalize hq : szR (szBook ks ps es) left = q at *
    have HQ : Hid (szR (szBook ks ps es) left = q) := hq
    clear hq hb2
    by_cases h4 : q < 0
    · obtain rfl : q = -1 := by omega
      go_wp2
      go_ret
      exact ⟨ret_int HQ.out.symm, HFIN.out.1⟩
    · go_wp2
      go_ret
      exact ⟨ret_int HQ.out.symm, HFIN.out.1⟩
  · rw [szR_neg h1]
    have HQ : Hid (szR (szBook ks ps es) left = -1) := szR_neg (by rw [HZ.out]; omega)
    clear h1
    go_wp2
    go_ret
    exact ⟨ret_int HQ.out.symm, HX1.out.below⟩

set_option maxHeartbeats 800000 in
theorem eqBook_any (vk vp ve uk up ue : Value) (ks ps : List Tri) (es : List Ent) (w : World) (hB : BookAt w vk vp ve ks ps es) (hB' : BookAt w uk up ue ks ps es) :
    Calls Tryz.prog 12 #[.agg #[vk, vp, ve], .agg #[uk, up, ue]] w fun e w' => e = .returned (.bool true) ∧ Below w.heap.size w w' := by
  have HB : Hid (BookAt w vk vp ve ks ps es ∧ BookAt w uk up ue ks ps es) := ⟨hB, hB'⟩
  obtain ⟨⟨ak, ck, rfl, -, -, -⟩, ⟨ap, cp, rfl, -, -, -⟩, ⟨ae, ce, rfl, -, -, -⟩⟩ := hB
  obtain ⟨⟨ak', ck', rfl, -, -, -⟩, ⟨ap', cp', rfl, -, -, -⟩, ⟨ae', ce', rfl, -, -, -⟩⟩ := hB'
  have HX0 : Hid (OwnAt w ((w.alloc (.cells #[.slice ak ks.length ck, .slice ap ps.length cp, .slice ae es.length ce] 39)).alloc (.cells #[.slice ak' ks.length ck', .slice ap' ps.length cp', .slice ae' es.length ce'] 39)) [[.slice ak ks.length ck, .slice ap ps.length cp, .slice ae es.length ce], [.slice ak' ks.length ck', .slice ap' ps.length cp', .slice ae' es.length ce']]) := ((OwnAt.start w).push rfl _ _).push (by simp) _ _
  go_enter Tryz.func12, Tryz.ntmps12
  go_wp2_with fail
  refine (eqBase_any _ _ _ _ ks ps _ (HB.out.1.k.keep HX0.out.below) (HB.out.1.p.keep HX0.out.below) (HB.out.2.k.keep HX0.out.below) (HB.out.2.p.keep HX0.out.below)).mono ?_
  rintro e w1 ⟨rfl, hb1⟩
  have HX1 : Hid (OwnAt w w1 _) := HX0.out.call hb1
  clear HX0 hb1
  have y0 : w1.cell? ⟨w.heap.size, 0, none⟩ = some (.slice ak ks.length ck) := (HX1.out.has 0 _ rfl 0 _ rfl).1
  have y1 : w1.cell? ⟨w.heap.size, 1, none⟩ = some (.slice ap ps.length cp) := (HX1.out.has 0 _ rfl 1 _ rfl).1
  have y2 : w1.cell? ⟨w.heap.size, 2, none⟩ = some (.slice ae es.length ce) := (HX1.out.has 0 _ rfl 2 _ rfl).1
  have z0 : w1.cell? ⟨w.heap.size + 1, 0, none⟩ = some (.slice ak' ks.length ck') := (HX1.out.has 1 _ rfl 0 _ rfl).1
  have z1 : w1.cell? ⟨w.heap.size + 1, 1, none⟩ = some (.slice ap' ps.length cp') := (HX1.out.has 1 _ rfl 1 _ rfl).1
  have z2 : w1.cell? ⟨w.heap.size + 1, 2, none⟩ = some (.slice ae' es.length ce') := (HX1.out.has 1 _ rfl 2 _ rfl).1
  go_wp2_with fail
  refine (eqEntries_any _ _ es _ (HB.out.1.e.keep HX1.out.below) (HB.out.2.e.keep HX1.out.below)).mono ?_
  rintro e w2 ⟨rfl, hb2⟩
  go_wp2
  go_ret
  exact ⟨rfl, below_step HX1.out.below hb2⟩

set_option maxHeartbeats 1600000 in
theorem toBook_own (vk vp ve : Value) (ks ps : List Tri) (es : List Ent) (w : World) (hB : BookAt w vk vp ve ks ps es) (sB : BSmall ks ps es) :
    Calls Tryz.prog 9 #[.agg #[vk, vp, ve]] w fun e w' => ∃ uk up ue, e = .returned (.agg #[uk, up, ue]) ∧ BookOwn (w.heap.size + 3) w' uk up ue ks ps es ∧ Below w.heap.size w w' := by
  have HB : Hid (BookAt w vk vp ve ks ps es) := hB
  have SB : Hid (BSmall ks ps es) := sB
  obtain ⟨⟨ak, ck, rfl, -, -, -⟩, ⟨ap, cp, rfl, -, -, -⟩, ⟨ae, ce, rfl, -, -, -⟩⟩ := hB
  have HO0 : Hid (OwnAt w (((w.alloc (.cells #[.slice ak ks.length ck, .slice ap ps.length cp, .slice ae es.length ce] 28)).alloc (.cells #[.slice none 0 0, .slice none 0 0, .slice none 0 0] 39)).alloc (.cells #[.slice none 0 0, .slice none 0 0, .slice none 0 0] 39)) [[.slice ak ks.length ck, .slice ap ps.length cp, .slice ae es.length ce], [.slice none 0 0, .slice none 0 0, .slice none 0 0], [.slice none 0 0, .slice none 0 0, .slice none 0 0]]) :=
    (((OwnAt.start w).push rfl _ _).push (by simp) _ _).push (by simp) _ _
  clear sB
  go_enter Tryz.func9, Tryz.ntmps9
  go_wp2_with fail
  refine (toBase_own _ _ ks ps _ (HB.out.k.keep HO0.out.below) (HB.out.p.keep HO0.out.below) SB.out.k SB.out.p).mono ?_
  rintro e w1 ⟨uk, up, rfl, tk, tp, hb1⟩
  have HO1 : Hid (OwnAt w w1 _) := HO0.out.call hb1
  simp only [World.size_alloc] at tk tp
  have HT1 : Hid (TrisOwn (w.heap.size + 3) w1 uk ks ∧ TrisOwn (w.heap.size + 3) w1 up ps) := ⟨tk.mono (by omega), tp.mono (by omega)⟩
  obtain ⟨bk, -, hek, hbk⟩ := tk
  obtain ⟨bp, -, hep, hbp⟩ := tp
  subst hek hep
  have HBIG : Hid (bk < w1.heap.size ∧ bp < w1.heap.size) := ⟨hbk.big, hbp.big⟩
  clear hbk hbp
  clear HO0 hb1
  have HO2 : Hid (OwnAt w ((w1.setCell ⟨w.heap.size + 1 + 1, 0, none⟩ (.slice (some ⟨bk, 0, none⟩) ks.length ks.length)).setCell ⟨w.heap.size + 1 + 1, 1, none⟩ (.slice (some ⟨bp, 0, none⟩) ps.length ps.length)) [[.slice ak ks.length ck, .slice ap ps.length cp, .slice ae es.length ce], [.slice none 0 0, .slice none 0 0, .slice none 0 0], [.slice (some ⟨bk, 0, none⟩) ks.length ks.length, .slice (some ⟨bp, 0, none⟩) ps.length ps.length, .slice none 0 0]]) :=
    (HO1.out.set (i := 2) (j := 0) rfl (by simp) _).set (i := 2) (j := 1) rfl (by simp) _
  have HT2 : Hid (TrisOwn (w.heap.size + 3) ((w1.setCell ⟨w.heap.size + 1 + 1, 0, none⟩ (.slice (some ⟨bk, 0, none⟩) ks.length ks.length)).setCell ⟨w.heap.size + 1 + 1, 1, none⟩ (.slice (some ⟨bp, 0, none⟩) ps.length ps.length)) (.slice (some ⟨bk, 0, none⟩) ks.length ks.length) ks ∧ TrisOwn (w.heap.size + 3) ((w1.setCell ⟨w.heap.size + 1 + 1, 0, none⟩ (.slice (some ⟨bk, 0, none⟩) ks.length ks.length)).setCell ⟨w.heap.size + 1 + 1, 1, none⟩ (.slice (some ⟨bp, 0, none⟩) ps.length ps.length)) (.slice (some ⟨bp, 0, none⟩) ps.length ps.length) ps) :=
    ⟨(HT1.out.1.other (by omega) _).other (by omega) _, (HT1.out.2.other (by omega) _).other (by omega) _⟩
  have d0 : w1.cell? ⟨w.heap.size, 0, none⟩ = some (.slice ak ks.length ck) := (HO1.out.has 0 _ rfl 0 _ rfl).1
  have d1 : w1.cell? ⟨w.heap.size, 1, none⟩ = some (.slice ap ps.length cp) := (HO1.out.has 0 _ rfl 1 _ rfl).1
  have d2 : w1.cell? ⟨w.heap.size, 2, none⟩ = some (.slice ae es.length ce) := (HO1.out.has 0 _ rfl 2 _ rfl).1
  have o0 : w1.cell? ⟨w.heap.size + 1 + 1, 0, none⟩ = some (.slice none 0 0) := (HO1.out.has 2 _ rfl 0 _ rfl).1
  have o1 : w1.cell? ⟨w.heap.size + 1 + 1, 1, none⟩ = some (.slice none 0 0) := (HO1.out.has 2 _ rfl 1 _ rfl).1
  have o2 : w1.cell? ⟨w.heap.size + 1 + 1, 2, none⟩ = some (.slice none 0 0) := (HO1.out.has 2 _ rfl 2 _ rfl).1
  have f0 : w1.frozen? ⟨w.heap.size + 1 + 1, 0, none⟩ = false := (HO1.out.has 2 _ rfl 0 _ rfl).2
  have f1 : w1.frozen? ⟨w.heap.size + 1 + 1, 1, none⟩ = false := (HO1.out.has 2 _ rfl 1 _ rfl).2
  go_wp2_with fail
  refine (toEntries_own _ es _ (HB.out.e.keep HO2.out.below) SB.out.e SB.out.f).mono ?_
  rintro e w2 ⟨ue, rfl, te, hb2⟩
  have HO3 : Hid (OwnAt w w2 _) := HO2.out.call hb2
  have hlo := HO2.out.big
  have HT3 : Hid (TrisOwn (w.heap.size + 3) w2 _ ks ∧ TrisOwn (w.heap.size + 3) w2 _ ps ∧ EntsOwn (w.heap.size + 3) w2 ue es) := ⟨HT2.out.1.keep hb2, HT2.out.2.keep hb2, te.mono hlo⟩
  obtain ⟨be, rows, hbe, hee, -, -, -⟩ := te
  have HSEP : Hid (bk ≠ be ∧ bp ≠ be) := by
    have h1 := HBIG.out.1
    have h2 := HBIG.out.2
    simp at hbe
    exact ⟨by omega, by omega⟩
  clear hbe
  subst hee
  clear HO2 HT2 HO1 HT1 d0 d1 d2 o0 o1 o2 f0 f1 hlo hb2
  have q0 : w2.cell? ⟨w.heap.size + 1, 0, none⟩ = some (.slice none 0 0) := (HO3.out.has 1 _ rfl 0 _ rfl).1
  have q1 : w2.cell? ⟨w.heap.size + 1, 1, none⟩ = some (.slice none 0 0) := (HO3.out.has 1 _ rfl 1 _ rfl).1
  have q2 : w2.cell? ⟨w.heap.size + 1, 2, none⟩ = some (.slice none 0 0) := (HO3.out.has 1 _ rfl 2 _ rfl).1
  have p0 : w2.cell? ⟨w.heap.size + 1 + 1, 0, none⟩ = some (.slice (some ⟨bk, 0, none⟩) ks.length ks.length) := (HO3.out.has 2 _ rfl 0 _ rfl).1
  have p1 : w2.cell? ⟨w.heap.size + 1 + 1, 1, none⟩ = some (.slice (some ⟨bp, 0, none⟩) ps.length ps.length) := (HO3.out.has 2 _ rfl 1 _ rfl).1
  have p2 : w2.cell? ⟨w.heap.size + 1 + 1, 2, none⟩ = some (.slice none 0 0) := (HO3.out.has 2 _ rfl 2 _ rfl).1
  have g0 : w2.frozen? ⟨w.heap.size + 1, 0, none⟩ = false := (HO3.out.has 1 _ rfl 0 _ rfl).2
  have g1 : w2.frozen? ⟨w.heap.size + 1, 1, none⟩ = false := (HO3.out.has 1 _ rfl 1 _ rfl).2
  have g2 : w2.frozen? ⟨w.heap.size + 1, 2, none⟩ = false := (HO3.out.has 1 _ rfl 2 _ rfl).2
  have g3 : w2.frozen? ⟨w.heap.size + 1 + 1, 2, none⟩ = false := (HO3.out.has 2 _ rfl 2 _ rfl).2
  go_wp2
  refine bodyPost_ret (v := .agg #[.slice (some ⟨bk, 0, none⟩) ks.length ks.length, .slice (some ⟨bp, 0, none⟩) ps.length ps.length, .slice (some ⟨be, 0, none⟩) es.length es.length]) (by simp [results, Tryz.results9, go_sem, *]) rfl ⟨_, _, _, rfl, ⟨(((HT3.out.1.other (by omega) _).other (by omega) _).other (by omega) _).other (by omega) _, (((HT3.out.2.1.other (by omega) _).other (by omega) _).other (by omega) _).other (by omega) _, (((HT3.out.2.2.other (by omega) _).other (by omega) _).other (by omega) _).other (by omega) _, fun b n c b' n' c' h1 h2 => by
    cases h2
    rcases h1 with h1 | h1 <;> cases h1
    · exact HSEP.out.1
    · exact HSEP.out.2⟩, ?_⟩
  exact below_set (below_set (below_set (below_set HO3.out.below _ _ (by omega) _) _ _ (by omega) _) _ _ (by omega) _) _ _ (by omega) _
end Go.Proofs.YtfjblenkcfdbiaaGreat

/-
  Decimals read: impl's readDecimal and the specification's l2Number.
-/
namespace Go.Proofs.YtfjblenkcfdbiaaGreat
open Go.RowKit

def digB (c : Int) : Bool := decide (48 ≤ c) && decide (c ≤ 57)
/-- The number of the first k digits. -/
def numTo (s : ByteArray) : Nat → Nat
  | 0 => 0
  | k + 1 => numTo s k * 10 + ((s.data.toList.getD k 0).toNat - 48)
def digitsB (s : ByteArray) : Bool := s.data.toList.all fun c => digB c.toNat
def leadB (s : ByteArray) : Bool := decide (1 < s.size) && (s.data.toList.getD 0 0).toNat == 48
/-- A decimal of at most seven digits. -/
def decB (s : ByteArray) : Bool := inB s.size 1 7 && (!leadB s && digitsB s)

theorem getD_byte {s : ByteArray} {k : Nat} (hk : k < s.size) : s.data.toList.getD k 0 = s[k] := by
  have h : k < s.data.size := hk
  rw [List.getD, Array.getElem?_toList, Array.getElem?_eq_getElem h]; rfl
theorem digitsB_true {s : ByteArray} (h : ∀ k (hk : k < s.size), digB (s[k].toNat) = true) : digitsB s = true := by
  unfold digitsB
  rw [List.all_eq_true]
  intro c hc
  obtain ⟨k, hk, rfl⟩ := List.getElem_of_mem hc
  exact h k (by simpa using hk)
theorem digitsB_false {s : ByteArray} {k : Nat} (hk : k < s.size) (h : digB (s[k].toNat) = false) : digitsB s = false := by
  unfold digitsB
  rw [List.all_eq_false]
  exact ⟨s[k], by simp [ByteArray.getElem_eq_getElem_data], by simp [h]⟩
theorem digB_iff {c : Int} : digB c = true ↔ 48 ≤ c ∧ c ≤ 57 := by simp [digB]
theorem numTo_lt {s : ByteArray} : ∀ (k : Nat), k ≤ s.size → (∀ j (hj : j < s.size), j < k → digB (s[j].toNat) = true) → numTo s k < 10 ^ k
  | 0, _, _ => by simp [numTo]
  | k + 1, hk, h => by
    have ih := numTo_lt k (by omega) (fun j hj hjk => h j hj (by omega))
    have hd := digB_iff.1 (h k (by omega) (by omega))
    rw [numTo, getD_byte (by omega), Nat.pow_succ]
    omega
theorem numTo_seven {s : ByteArray} (k : Nat) (hs : s.size ≤ 7) (hk : k ≤ s.size) (h : ∀ j (hj : j < s.size), j < k → digB (s[j].toNat) = true) : numTo s k < 10000000 :=
  Nat.lt_of_lt_of_le (numTo_lt k hk h) (Nat.pow_le_pow_right (by omega) (by omega : k ≤ 7))

theorem u8_zero (c : UInt8) : (((c.toNat : Nat) : Int) == 48) = (c.toNat == 48) := by
  rw [Bool.eq_iff_iff]; simp only [beq_iff_eq]; omega

set_option maxHeartbeats 1600000 in
theorem readDecimal_any (s : ByteArray) (w : World) (hs : s.size ≤ maxLen) :
    Calls Tryz.prog 169 #[.string s] w fun e w' => e = .returned (.tuple #[.int .i64 (bif decB s then (numTo s s.size : Int) else 0), .bool (decB s)]) ∧ Below w.heap.size w w' := by
  unfold maxLen at hs
  by_cases h1 : (s.size : Int) < 1
  · have e : decB s = false := by simp [decB, inB]; omega
    rw [e]; clear e
    go_enter Tryz.func169, Tryz.ntmps169
    go_wp2
    go_ret2
    exact ⟨rfl, Below.refl _ _⟩
  by_cases h2 : (7 : Int) < s.size
  · have e : decB s = false := by simp [decB, inB]; omega
    rw [e]; clear e
    go_enter Tryz.func169, Tryz.ntmps169
    go_wp2
    go_ret2
    exact ⟨rfl, Below.refl _ _⟩
  have hin : inB s.size 1 7 = true := by simp [inB]; omega
  have hz : 0 < s.size := by omega
  cases hl : leadB s
  · have e : decB s = digitsB s := by simp [decB, hin, hl]
    have HL : Hid (leadB s = false) := hl
    rw [e]; clear e hin
    have hsz7 : s.size ≤ 7 := by omega
    by_cases h3 : (1 : Int) < s.size
    · have h4 : (((s[0].toNat : Nat) : Int) == 48) = false := by
        rw [u8_zero]
        have : 1 < s.size := by omega
        simp only [leadB, this, decide_true, Bool.true_and, getD_byte hz] at hl
        exact hl
      clear hl
      go_enter Tryz.func169, Tryz.ntmps169
      go_wp2
      go_loopw [4, 6] (fun n _ wr => ∃ k : Nat, k ≤ s.size ∧ wr = w.iter s k ∧ n = .int .i64 (numTo s k : Int) ∧ Hid (∀ j (hj : j < s.size), j < k → digB (s[j].toNat) = true)) (fun _ _ wr => s.size - wr.iterPos w.heap.size)
      case atStart => exact ⟨0, Nat.zero_le _, rfl, rfl, fun j _ hj => absurd hj (Nat.not_lt_zero _)⟩
      case round =>
        obtain ⟨k, hk, rfl, rfl, HA⟩ := hrel
        by_cases hlt : k < s.size
        · have hn7 : numTo s k < 10000000 := numTo_seven k hsz7 hk HA.out
          have HS : Hid (numTo s (k + 1) = numTo s k * 10 + (s[k].toNat - 48)) := by
            show numTo s (k + 1) = _
            rw [numTo, getD_byte hlt]
          by_cases ha : s[k].toNat < 128
          · have hnx : ∀ ty, (Instr.next (.pointer (some ⟨w.heap.size, 0, none⟩)) true ty).run Tryz.prog (w.iter s k) = _ := fun ty => run_next_ascii w s k ty hlt ha
            generalize hc : s[k].toNat = c at hnx ha HS
            have HC : Hid (s[k].toNat = c) := hc
            clear hc
            generalize numTo s k = nk at hn7 HS
            by_cases h5 : (c : Int) < 48
            · go_wp2
              go_ret2
              have e : digitsB s = false := digitsB_false hlt (by rw [HC.out]; simp [digB]; omega)
              rw [e]
              exact ⟨rfl, below_iter _ _ _⟩
            · by_cases h6 : (57 : Int) < (c : Int)
              · go_wp2
                go_ret2
                have e : digitsB s = false := digitsB_false hlt (by rw [HC.out]; simp [digB]; omega)
                rw [e]
                exact ⟨rfl, below_iter _ _ _⟩
              · go_wp2
                go_roundw
                case rel => exact ⟨k + 1, by omega, rfl, by rw [HS.out]; congr 1; omega, fun j hj hjk => if h : j = k then by subst h; rw [HC.out, digB_iff]; omega else HA.out j hj (by omega)⟩
                case measure => simp; omega
          · have hnx : ∀ ty, (Instr.next (.pointer (some ⟨w.heap.size, 0, none⟩)) true ty).run Tryz.prog (w.iter s k) = _ := fun ty => run_next_any w s k ty hlt
            have hd := (decode_high s k hlt (by omega)).1
            generalize Utf8.decode s k = d at hnx hd
            have h5 : ¬ (d.1 : Int) < 48 := by omega
            have h6 : (57 : Int) < (d.1 : Int) := by omega
            have HD : Hid (digitsB s = false) := digitsB_false hlt (by simp [digB]; omega)
            go_wp2
            go_ret2
            rw [HD.out]
            exact ⟨rfl, below_iter _ _ _⟩
        · have hnx : ∀ ty, (Instr.next (.pointer (some ⟨w.heap.size, 0, none⟩)) true ty).run Tryz.prog (w.iter s k) = _ := fun ty => run_next_end w s k ty hlt
          have HT : Hid (digitsB s = true) := digitsB_true fun j hj => HA.out j hj (by omega)
          have HK : Hid (k = s.size) := by show k = s.size; omega
          go_wp2
          go_ret2
          rw [HT.out, HK.out]
          exact ⟨rfl, below_iter _ _ _⟩
    · clear hl
      go_enter Tryz.func169, Tryz.ntmps169
      go_wp2
      go_loopw [4, 6] (fun n _ wr => ∃ k : Nat, k ≤ s.size ∧ wr = w.iter s k ∧ n = .int .i64 (numTo s k : Int) ∧ Hid (∀ j (hj : j < s.size), j < k → digB (s[j].toNat) = true)) (fun _ _ wr => s.size - wr.iterPos w.heap.size)
      case atStart => exact ⟨0, Nat.zero_le _, rfl, rfl, fun j _ hj => absurd hj (Nat.not_lt_zero _)⟩
      case round =>
        obtain ⟨k, hk, rfl, rfl, HA⟩ := hrel
        by_cases hlt : k < s.size
        · have hn7 : numTo s k < 10000000 := numTo_seven k hsz7 hk HA.out
          have HS : Hid (numTo s (k + 1) = numTo s k * 10 + (s[k].toNat - 48)) := by
            show numTo s (k + 1) = _
            rw [numTo, getD_byte hlt]
          by_cases ha : s[k].toNat < 128
          · have hnx : ∀ ty, (Instr.next (.pointer (some ⟨w.heap.size, 0, none⟩)) true ty).run Tryz.prog (w.iter s k) = _ := fun ty => run_next_ascii w s k ty hlt ha
            generalize hc : s[k].toNat = c at hnx ha HS
            have HC : Hid (s[k].toNat = c) := hc
            clear hc
            generalize numTo s k = nk at hn7 HS
            by_cases h5 : (c : Int) < 48
            · go_wp2
              go_ret2
              have e : digitsB s = false := digitsB_false hlt (by rw [HC.out]; simp [digB]; omega)
              rw [e]
              exact ⟨rfl, below_iter _ _ _⟩
            · by_cases h6 : (57 : Int) < (c : Int)
              · go_wp2
                go_ret2
                have e : digitsB s = false := digitsB_false hlt (by rw [HC.out]; simp [digB]; omega)
                rw [e]
                exact ⟨rfl, below_iter _ _ _⟩
              · go_wp2
                go_roundw
                case rel => exact ⟨k + 1, by omega, rfl, by rw [HS.out]; congr 1; omega, fun j hj hjk => if h : j = k then by subst h; rw [HC.out, digB_iff]; omega else HA.out j hj (by omega)⟩
                case measure => simp; omega
          · have hnx : ∀ ty, (Instr.next (.pointer (some ⟨w.heap.size, 0, none⟩)) true ty).run Tryz.prog (w.iter s k) = _ := fun ty => run_next_any w s k ty hlt
            have hd := (decode_high s k hlt (by omega)).1
            generalize Utf8.decode s k = d at hnx hd
            have h5 : ¬ (d.1 : Int) < 48 := by omega
            have h6 : (57 : Int) < (d.1 : Int) := by omega
            have HD : Hid (digitsB s = false) := digitsB_false hlt (by simp [digB]; omega)
            go_wp2
            go_ret2
            rw [HD.out]
            exact ⟨rfl, below_iter _ _ _⟩
        · have hnx : ∀ ty, (Instr.next (.pointer (some ⟨w.heap.size, 0, none⟩)) true ty).run Tryz.prog (w.iter s k) = _ := fun ty => run_next_end w s k ty hlt
          have HT : Hid (digitsB s = true) := digitsB_true fun j hj => HA.out j hj (by omega)
          have HK : Hid (k = s.size) := by show k = s.size; omega
          go_wp2
          go_ret2
          rw [HT.out, HK.out]
          exact ⟨rfl, below_iter _ _ _⟩
  · have e : decB s = false := by simp [decB, hl]
    have h3 : (1 : Int) < s.size := by
      have : 1 < s.size := by simp [leadB] at hl; exact hl.1
      omega
    have h4 : (((s[0].toNat : Nat) : Int) == 48) = true := by
      rw [u8_zero]
      simp only [leadB, Bool.and_eq_true, getD_byte hz] at hl
      exact hl.2
    rw [e]; clear e hl hin
    go_enter Tryz.func169, Tryz.ntmps169
    go_wp2
    go_ret2
    exact ⟨rfl, Below.refl _ _⟩
end Go.Proofs.YtfjblenkcfdbiaaGreat

/-
  A text cut at each space: the specification's l2Cut.
-/
namespace Go.Proofs.YtfjblenkcfdbiaaGreat
open Go.RowKit

/-- v is a slice of texts, in w. -/
def StrsAt (w : World) (v : Value) (ws : List ByteArray) : Prop :=
  ∃ g off cap, v = .slice (some ⟨g, off, none⟩) ws.length cap ∧ ws.length ≤ cap ∧ cap ≤ maxLen ∧ ∀ i x, ws[i]? = some x → w.cell? ⟨g, off + i, none⟩ = some (.string x)
theorem StrsAt.keep {w w' : World} {v : Value} {ws : List ByteArray} (h : StrsAt w v ws) (hb : Below w.heap.size w w') : StrsAt w' v ws := by
  obtain ⟨g, off, cap, rfl, h1, h2, h3⟩ := h
  exact ⟨g, off, cap, rfl, h1, h2, fun i x hx => cell_keep hb (Nat.le_refl _) (h3 i x hx)⟩

/-- Pieces of bytes, cut at each space; cur is the piece at hand. -/
def cutA (cur : List UInt8) : List UInt8 → List (List UInt8)
  | [] => [cur]
  | c :: r => if c = 32 then cur :: cutA [] r else cutA (cur ++ [c]) r

def bytes (s : ByteArray) : List UInt8 := s.data.toList
theorem bytes_inj {a b : ByteArray} (h : bytes a = bytes b) : a = b := ByteArray.ext (Array.toList_inj.1 h)
theorem bytes_length (s : ByteArray) : (bytes s).length = s.size := by simp [bytes]
theorem bytes_extract (s : ByteArray) (a b : Nat) : bytes (s.extract a b) = ((bytes s).drop a).take (b - a) := by
  simp [bytes]

theorem drop_cons (s : ByteArray) (k : Nat) (h : k < s.size) : (bytes s).drop k = s[k] :: (bytes s).drop (k + 1) := by
  have hl : k < (bytes s).length := by rw [bytes_length]; exact h
  rw [List.drop_eq_getElem_cons hl]
  rfl
theorem piece_snoc (s : ByteArray) (a k : Nat) (ha : a ≤ k) (h : k < s.size) : bytes (s.extract a (k + 1)) = bytes (s.extract a k) ++ [s[k]] := by
  rw [bytes_extract, bytes_extract]
  have hl : k - a < ((bytes s).drop a).length := by rw [List.length_drop, bytes_length]; omega
  rw [show k + 1 - a = k - a + 1 by omega, List.take_succ_eq_append_getElem hl]
  congr 2
  simp only [List.getElem_drop]
  have : a + (k - a) = k := by omega
  simp only [this]
  rfl

/-- What is cut so far, the piece at hand, and the rest come to the whole. -/
def CutInv (s : ByteArray) (fr k : Nat) (P : List ByteArray) : Prop := P.map bytes ++ cutA (bytes (s.extract fr k)) ((bytes s).drop k) = cutA [] (bytes s)
theorem CutInv.start (s : ByteArray) : CutInv s 0 0 [] := by
  unfold CutInv
  rw [bytes_extract]
  simp
theorem CutInv.space {s : ByteArray} {fr k : Nat} {P : List ByteArray} (h : CutInv s fr k P) (hk : k < s.size) (hc : s[k] = 32) : CutInv s (k + 1) (k + 1) (P ++ [s.extract fr k]) := by
  unfold CutInv at h ⊢
  rw [drop_cons s k hk, cutA, if_pos hc] at h
  rw [← h, bytes_extract s (k + 1) (k + 1)]
  simp
theorem CutInv.other {s : ByteArray} {fr k : Nat} {P : List ByteArray} (h : CutInv s fr k P) (ha : fr ≤ k) (hk : k < s.size) (hc : ¬ s[k] = 32) : CutInv s fr (k + 1) P := by
  unfold CutInv at h ⊢
  rw [drop_cons s k hk, cutA, if_neg hc] at h
  rw [← h, piece_snoc s fr k ha hk]
theorem CutInv.fin {s : ByteArray} {fr : Nat} {P : List ByteArray} (h : CutInv s fr s.size P) : (P ++ [s.extract fr s.size]).map bytes = cutA [] (bytes s) := by
  unfold CutInv at h
  rw [List.drop_of_length_le (by rw [bytes_length]; omega), cutA] at h
  rw [← h]; simp

theorem u8_space (c : UInt8) : (((c.toNat : Nat) : Int) == 32) = (c == 32) := by
  rw [Bool.eq_iff_iff]
  simp only [beq_iff_eq]
  constructor
  · intro h
    apply UInt8.toNat_inj.1
    have : c.toNat = 32 := by omega
    simpa using this
  · rintro rfl; rfl

theorem own_ge {w : World} {base : Nat} {e : TypeId} {size : Nat} {v : Value} {n : Nat} {xs : List Value} (h : w.ownsRow base e size v n xs) : ∀ k, v.ownBlock = some k → base ≤ k := by
  intro k hk
  rcases h.2 with ⟨rfl, _⟩ | ⟨g, cap, cur, rfl, hg, _⟩
  · cases hk
  · cases hk; exact hg
theorem strs_of_own {w : World} {base : Nat} {e : TypeId} {v : Value} {ws : List ByteArray} (h : w.ownsRow base e 1 v ws.length (ws.map Value.string)) (hne : ws ≠ []) : StrsAt w v ws := by
  rcases h.2 with ⟨_, h0⟩ | ⟨g, cap, cur, rfl, _, hb, hn, hc, _, ht⟩
  · exact absurd (List.length_eq_zero_iff.1 h0) hne
  · refine ⟨g, 0, cap, rfl, hn, hc, fun i x hx => ?_⟩
    have hi : i < ws.length := (List.getElem?_eq_some_iff.1 hx).1
    have h1 : cur.toList[i]? = some (.string x) := by
      have h2 : (cur.toList.take (ws.length * 1))[i]? = some (.string x) := by rw [ht]; simp [hx]
      rw [List.getElem?_take] at h2
      simpa [hi] using h2
    simp only [Nat.zero_add, World.cell?, hb]
    simpa using h1

theorem infoStr : (Tryz.prog.info? 9).map (fun i => (i.zero, i.size, i.bytes)) = some (some (.string ByteArray.empty), 1, 16) := by kernel_rfl

set_option maxHeartbeats 1600000 in
theorem l2Cut_any (s : ByteArray) (w : World) (hs : s.size ≤ 1048576) :
    Calls Tryz.prog 94 #[.string s, .int .u8 32] w fun e w' => ∃ v ws, e = .returned v ∧ StrsAt w' v ws ∧ ws.map bytes = cutA [] (bytes s) ∧ Below w.heap.size w w' := by
  obtain ⟨i0, hi, hz0, hz1, hz2⟩ := info_parts infoStr
  go_enter Tryz.func94, Tryz.ntmps94
  go_wp2
  go_loopw [5, 6, 7] (fun o f i wr => ∃ (k fr : Nat) (P : List ByteArray), fr ≤ k ∧ k ≤ s.size ∧ i = .int .i64 k ∧ f = .int .i64 fr ∧ P.length ≤ k ∧ wr.ownsRow w.heap.size 9 1 o P.length (P.map Value.string) ∧ Below w.heap.size w wr ∧ Hid (CutInv s fr k P)) (fun _ _ i _ => s.size - (intOf i).toNat)
  case atStart => exact ⟨0, 0, [], Nat.le_refl _, Nat.zero_le _, rfl, rfl, Nat.le_refl _, World.ownsRow_made w #[] 0 (Nat.le_refl _) (Nat.zero_le _) rfl, (Below.refl _ _).alloc (Nat.le_refl _) _, CutInv.start s⟩
  case round =>
    obtain ⟨k, fr, P, hfk, hk, rfl, rfl, hpl, hown, hb, HI⟩ := hrel
    by_cases hlt : k < s.size
    · by_cases hc : s[k] = 32
      · have h1 : (((s[k].toNat : Nat) : Int) == 32) = true := by rw [u8_space]; simpa using hc
        have HC : Hid (s[k] = 32) := hc
        clear hc
        go_wp2_with (at_builtin; refine wpList_append_own _ rfl _ _ 130 rfl w.heap.size 9 i0 (.string ByteArray.empty) 1 16 Tryz.underlying130 hi hz0 hz1 hz2 rfl (by decide) _ _ _ rfl (hown.alloc _) ⟨wr.heap.size, 0, none⟩ 1 1 [.string (s.extract fr k)] rfl rfl (cell_one_new _ _ _) (fun x hx => by simp at hx; subst hx; rfl) (by unfold maxLen; omega) (by omega) (by have := hb.size; simp; omega) ?_; intro v' w3 hown' hgrow3 hnil3)
        refine ⟨⟨k + 1, k + 1, P ++ [s.extract fr k], Nat.le_refl _, by omega, by go_num, by go_num, by simp; omega, ?_, (hb.alloc hb.size _).grown hgrow3 (by have := hb.size; simp; omega) (own_ge hown), HI.out.space hlt HC.out⟩, by simp [intOf]; omega⟩
        simpa using hown'
      · have h1 : (((s[k].toNat : Nat) : Int) == 32) = false := by rw [u8_space]; simpa using hc
        have HC : Hid (¬ s[k] = 32) := hc
        clear hc
        go_wp2
        exact ⟨⟨k + 1, fr, P, by omega, by omega, by go_num, rfl, by omega, hown, hb, HI.out.other hfk hlt HC.out⟩, by simp [intOf]; omega⟩
    · have HK : Hid (k = s.size) := by show k = s.size; omega
      go_wp2_with (at_builtin; refine wpList_append_own _ rfl _ _ 130 rfl w.heap.size 9 i0 (.string ByteArray.empty) 1 16 Tryz.underlying130 hi hz0 hz1 hz2 rfl (by decide) _ _ _ rfl (hown.alloc _) ⟨wr.heap.size, 0, none⟩ 1 1 [.string (s.extract fr s.size)] rfl rfl (cell_one_new _ _ _) (fun x hx => by simp at hx; subst hx; rfl) (by unfold maxLen; omega) (by omega) (by have := hb.size; simp; omega) ?_; intro v' w3 hown' hgrow3 hnil3)
      go_ret
      refine ⟨v', P ++ [s.extract fr s.size], rfl, strs_of_own (base := w.heap.size) (e := 9) (by simpa using hown') (by simp), ?_, (hb.alloc hb.size _).grown hgrow3 (by have := hb.size; simp; omega) (own_ge hown)⟩
      have := HI.out
      rw [HK.out] at this
      exact this.fin
end Go.Proofs.YtfjblenkcfdbiaaGreat

/-
  A text cut at each space, by its runes: impl's wordsOf gives the same pieces as the cut by bytes.
-/
namespace Go.Proofs.YtfjblenkcfdbiaaGreat
open Go.RowKit

/-- The pieces of a text. -/
def cutW (s : ByteArray) : List ByteArray := (cutA [] (bytes s)).map fun l => ⟨⟨l⟩⟩
theorem cutW_eq {s : ByteArray} {ws : List ByteArray} (h : ws.map bytes = cutA [] (bytes s)) : ws = cutW s := by
  unfold cutW
  rw [← h, List.map_map]
  have : ((fun l => (⟨⟨l⟩⟩ : ByteArray)) ∘ bytes) = id := by funext x; rfl
  rw [this, List.map_id]
theorem get!_eq (s : ByteArray) (k : Nat) (h : k < s.size) : s.get! k = s[k] := get_at s k h

theorem decode_skip (s : ByteArray) (pos : Nat) (h : pos < s.size) (ha : 128 ≤ (s[pos]'h).toNat) :
    pos + (Utf8.decode s pos).2 ≤ s.size ∧ ∀ j (hj : j < s.size), pos ≤ j → j < pos + (Utf8.decode s pos).2 → 128 ≤ (s[j]'hj).toNat := by
  have hn : ¬ (s[pos]'h).toNat < 128 := by omega
  have one : ∀ j (hj : j < s.size), pos ≤ j → j < pos + 1 → 128 ≤ (s[j]'hj).toNat := fun j hj h1 h2 => by
    have : j = pos := by omega
    subst this; exact ha
  have more : ∀ k, pos + k < s.size → (s.get! (pos + k)).toNat / 64 = 2 → ∀ (hj : pos + k < s.size), 128 ≤ (s[pos + k]'hj).toNat := fun k hk hq hj => by
    rw [get!_eq s _ hj] at hq; omega
  simp only [Utf8.decode, get_at s pos h, hn, if_false]
  split
  · next hc =>
    simp only [Bool.and_eq_true, decide_eq_true_eq, beq_iff_eq] at hc
    obtain ⟨_, h1, q1⟩ := hc
    split
    · refine ⟨by show pos + 2 ≤ _; omega, fun j hj a b => ?_⟩
      have b' : j < pos + 2 := b
      by_cases e : j = pos
      · exact one j hj a (by omega)
      · obtain rfl : j = pos + 1 := by omega
        exact more 1 h1 q1 hj
    · exact ⟨by show pos + 1 ≤ _; omega, fun j hj a b => one j hj a b⟩
  · split
    · next hc =>
      simp only [Bool.and_eq_true, decide_eq_true_eq, beq_iff_eq] at hc
      obtain ⟨⟨_, h1, q1⟩, h2, q2⟩ := hc
      split
      · refine ⟨by show pos + 3 ≤ _; omega, fun j hj a b => ?_⟩
        have b' : j < pos + 3 := b
        by_cases e : j = pos
        · exact one j hj a (by omega)
        · by_cases e2 : j = pos + 1
          · subst e2; exact more 1 h1 q1 hj
          · obtain rfl : j = pos + 2 := by omega
            exact more 2 h2 q2 hj
      · exact ⟨by show pos + 1 ≤ _; omega, fun j hj a b => one j hj a b⟩
    · split
      · next hc =>
        simp only [Bool.and_eq_true, decide_eq_true_eq, beq_iff_eq] at hc
        obtain ⟨⟨⟨_, h1, q1⟩, h2, q2⟩, h3, q3⟩ := hc
        split
        · refine ⟨by show pos + 4 ≤ _; omega, fun j hj a b => ?_⟩
          have b' : j < pos + 4 := b
          by_cases e : j = pos
          · exact one j hj a (by omega)
          · by_cases e2 : j = pos + 1
            · subst e2; exact more 1 h1 q1 hj
            · by_cases e3 : j = pos + 2
              · subst e3; exact more 2 h2 q2 hj
              · obtain rfl : j = pos + 3 := by omega
                exact more 3 h3 q3 hj
        · exact ⟨by show pos + 1 ≤ _; omega, fun j hj a b => one j hj a b⟩
      · exact ⟨by show pos + 1 ≤ _; omega, fun j hj a b => one j hj a b⟩

theorem CutInv.skip {s : ByteArray} {fr k : Nat} {P : List ByteArray} (h : CutInv s fr k P) (ha : fr ≤ k) : ∀ n, k + n ≤ s.size → (∀ j (hj : j < s.size), k ≤ j → j < k + n → ¬ s[j] = 32) → CutInv s fr (k + n) P
  | 0, _, _ => h
  | n + 1, hk, hc => (CutInv.skip h ha n (by omega) (fun j hj a b => hc j hj a (by omega))).other (by omega) (by omega : k + n < s.size) (hc _ _ (by omega) (by omega))

theorem not_space {c : UInt8} (h : 128 ≤ c.toNat) : ¬ c = 32 := fun e => by rw [e] at h; simp at h

set_option maxHeartbeats 1600000 in
theorem wordsOf_any (s : ByteArray) (w : World) (hs : s.size ≤ 1048576) :
    Calls Tryz.prog 168 #[.string s] w fun e w' => ∃ v, e = .returned v ∧ StrsAt w' v (cutW s) ∧ Below w.heap.size w w' := by
  obtain ⟨i0, hi, hz0, hz1, hz2⟩ := info_parts infoStr
  go_enter Tryz.func168, Tryz.ntmps168
  go_wp2
  go_loopw [3, 4, 5, 6] (fun o f _ _ wr => ∃ (k fr : Nat) (P : List ByteArray), fr ≤ k ∧ k ≤ s.size ∧ f = .int .i64 fr ∧ P.length ≤ k ∧ wr.ownsRow (w.heap.size + 1) 9 1 o P.length (P.map Value.string) ∧ wr.heap[w.heap.size]? = some (.stringIter s k) ∧ Below w.heap.size w wr ∧ Hid (CutInv s fr k P)) (fun _ _ _ _ wr => s.size - wr.iterPos w.heap.size)
  case atStart => exact ⟨0, 0, [], Nat.le_refl _, Nat.zero_le _, rfl, Nat.le_refl _, ⟨rfl, .inl ⟨rfl, rfl⟩⟩, World.iter_heap w s 0, (Below.refl _ _).alloc (Nat.le_refl _) _, CutInv.start s⟩
  case round =>
    obtain ⟨k, fr, P, hfk, hk, rfl, hpl, hown, hit, hb, HI⟩ := hrel
    have hsz : w.heap.size < wr.heap.size := (Array.getElem?_eq_some_iff.1 hit).1
    by_cases hlt : k < s.size
    · by_cases ha : s[k].toNat < 128
      · have hnx : ∀ ty, (Instr.next (.pointer (some ⟨w.heap.size, 0, none⟩)) true ty).run Tryz.prog wr = _ := fun ty => Lib.run_next_ascii_at wr w.heap.size s k ty hit hlt ha
        have hit2 := Lib.iterAt_heap wr w.heap.size s k (k + 1) hit
        have hb2 := Lib.below_iterAt hb (k := w.heap.size) (Nat.le_refl _) s (k + 1)
        have hown2 := ownsRow_iterAt hown (k := w.heap.size) (Nat.lt_succ_self _) s (k + 1)
        have HP : Hid (wr.iterPos w.heap.size = k) := iterPos_of hit
        by_cases hc : s[k] = 32
        · have h1 : (((s[k].toNat : Nat) : Int) == 32) = true := by rw [u8_space]; simpa using hc
          have HC : Hid (s[k] = 32) := hc
          clear hc
          generalize hW : wr.iterAt w.heap.size s (k + 1) = W at hnx hit2 hb2 hown2
          have hszW : w.heap.size < W.heap.size := (Array.getElem?_eq_some_iff.1 hit2).1
          clear hW
          go_wp2_with (at_builtin; refine wpList_append_own _ rfl _ _ 130 rfl (w.heap.size + 1) 9 i0 (.string ByteArray.empty) 1 16 Tryz.underlying130 hi hz0 hz1 hz2 rfl (by decide) _ _ _ rfl (hown2.alloc _) ⟨W.heap.size, 0, none⟩ 1 1 [.string (s.extract fr k)] rfl rfl (cell_one_new _ _ _) (fun x hx => by simp at hx; subst hx; rfl) (by unfold maxLen; omega) (by omega) (by have := hb.size; simp; omega) ?_; intro v' w3 hown' hgrow3 hnil3)
          have hit3 : w3.heap[w.heap.size]? = some (.stringIter s (k + 1)) := (hgrow3.block w.heap.size (by simp; omega) (fun hj => by have := own_ge hown2 _ hj.symm; omega)).trans ((Below.heap_alloc _ _ _ hszW).trans hit2)
          refine ⟨⟨k + 1, k + 1, P ++ [s.extract fr k], Nat.le_refl _, by omega, by go_num, by simp; omega, by simpa using hown', hit3, (hb2.alloc hb2.size _).grown hgrow3 (by have := hb2.size; simp; omega) (fun j hj => by have := own_ge hown2 _ hj; omega), HI.out.space hlt HC.out⟩, ?_⟩
          rw [iterPos_of hit3, HP.out]; omega
        · have h1 : (((s[k].toNat : Nat) : Int) == 32) = false := by rw [u8_space]; simpa using hc
          have HC : Hid (¬ s[k] = 32) := hc
          clear hc
          go_wp2
          refine ⟨⟨k + 1, fr, P, by omega, by omega, rfl, by omega, hown2, hit2, hb2, HI.out.other hfk hlt HC.out⟩, ?_⟩
          rw [iterPos_of hit2, HP.out]; omega
      · have hnx : ∀ ty, (Instr.next (.pointer (some ⟨w.heap.size, 0, none⟩)) true ty).run Tryz.prog wr = _ := fun ty => Lib.run_next_any_at wr w.heap.size s k ty hit hlt
        have hd := decode_high s k hlt (by omega)
        have HS : Hid (k + (Utf8.decode s k).2 ≤ s.size ∧ ∀ j (hj : j < s.size), k ≤ j → j < k + (Utf8.decode s k).2 → 128 ≤ (s[j]'hj).toNat) := decode_skip s k hlt (by omega)
        have HP : Hid (wr.iterPos w.heap.size = k) := iterPos_of hit
        generalize Utf8.decode s k = d at hnx hd HS
        obtain ⟨d1, d2⟩ := d
        dsimp only at hnx hd HS
        have hit2 := Lib.iterAt_heap wr w.heap.size s k (k + d2) hit
        have hb2 := Lib.below_iterAt hb (k := w.heap.size) (Nat.le_refl _) s (k + d2)
        have hown2 := ownsRow_iterAt hown (k := w.heap.size) (Nat.lt_succ_self _) s (k + d2)
        have h1 : ((d1 : Int) == 32) = false := by simp; omega
        go_wp2
        have hS := HS.out
        refine ⟨⟨k + d2, fr, P, by omega, hS.1, rfl, by omega, hown2, hit2, hb2, HI.out.skip hfk d2 hS.1 fun j hj a b => not_space (hS.2 j hj a b)⟩, ?_⟩
        rw [iterPos_of hit2, HP.out]; omega
    · have hnx : ∀ ty, (Instr.next (.pointer (some ⟨w.heap.size, 0, none⟩)) true ty).run Tryz.prog wr = _ := fun ty => Lib.run_next_end_at wr w.heap.size s k ty hit hlt
      have HK : Hid (k = s.size) := by show k = s.size; omega
      go_wp2_with (at_builtin; refine wpList_append_own _ rfl _ _ 130 rfl (w.heap.size + 1) 9 i0 (.string ByteArray.empty) 1 16 Tryz.underlying130 hi hz0 hz1 hz2 rfl (by decide) _ _ _ rfl (hown.alloc _) ⟨wr.heap.size, 0, none⟩ 1 1 [.string (s.extract fr s.size)] rfl rfl (cell_one_new _ _ _) (fun x hx => by simp at hx; subst hx; rfl) (by unfold maxLen; omega) (by omega) (by have := hb.size; simp; omega) ?_; intro v' w3 hown' hgrow3 hnil3)
      go_ret
      have h2 := HI.out
      rw [HK.out] at h2
      have h3 : StrsAt w3 v' (P ++ [s.extract fr s.size]) := strs_of_own (base := w.heap.size + 1) (e := 9) (by simpa using hown') (by simp)
      rw [cutW_eq h2.fin] at h3
      exact ⟨v', rfl, h3, (hb.alloc hb.size _).grown hgrow3 (by have := hb.size; simp; omega) (fun j hj => by have := own_ge hown _ hj; omega)⟩
end Go.Proofs.YtfjblenkcfdbiaaGreat

/-
  Plain facts: texts in the order of their bytes.
-/
namespace Go.Proofs.YtfjblenkcfdbiaaGreat
open Go.RowKit

theorem bl_irrefl : ∀ a : List UInt8, Op.bytesLess a a = false
  | [] => rfl
  | a :: x => by
    have : ¬ a < a := UInt8.lt_irrefl a
    simp [Op.bytesLess, bl_irrefl x]
theorem bl_trans : ∀ a b c : List UInt8, Op.bytesLess a b = true → Op.bytesLess b c = true → Op.bytesLess a c = true
  | a, b, [], h, k => by cases b <;> simp [Op.bytesLess] at k
  | a, [], c :: z, h, k => by cases a <;> simp [Op.bytesLess] at h
  | [], b :: y, c :: z, h, k => rfl
  | a :: x, b :: y, c :: z, h, k => by
    simp only [Op.bytesLess, Bool.or_eq_true, Bool.and_eq_true, decide_eq_true_eq, beq_iff_eq] at h k ⊢
    rcases h with h | ⟨rfl, h⟩
    · rcases k with k | ⟨rfl, k⟩
      · exact .inl (UInt8.lt_trans h k)
      · exact .inl h
    · rcases k with k | ⟨rfl, k⟩
      · exact .inl k
      · exact .inr ⟨rfl, bl_trans x y z h k⟩
theorem bl_total : ∀ a b : List UInt8, Op.bytesLess a b = false → Op.bytesLess b a = false → a = b
  | [], [], _, _ => rfl
  | [], b :: y, h, _ => by simp [Op.bytesLess] at h
  | a :: x, [], _, k => by simp [Op.bytesLess] at k
  | a :: x, b :: y, h, k => by
    simp only [Op.bytesLess, Bool.or_eq_false_iff, decide_eq_false_iff_not, Bool.and_eq_false_iff, beq_eq_false_iff_ne] at h k
    have e : a = b := by
      have h1 : b ≤ a := UInt8.not_lt.1 h.1
      have h2 : a ≤ b := UInt8.not_lt.1 k.1
      exact UInt8.le_antisymm h2 h1
    subst e
    have h2 : Op.bytesLess x y = false := by rcases h.2 with h | h; exact absurd rfl h; exact h
    have k2 : Op.bytesLess y x = false := by rcases k.2 with k | k; exact absurd rfl k; exact k
    rw [bl_total x y h2 k2]
def blS (a b : ByteArray) : Bool := Op.bytesLess a.toList b.toList
theorem blS_irrefl (a : ByteArray) : blS a a = false := bl_irrefl _
theorem blS_trans {a b c : ByteArray} (h : blS a b = true) (k : blS b c = true) : blS a c = true := bl_trans _ _ _ h k
theorem blS_total {a b : ByteArray} (h : blS a b = false) (k : blS b a = false) : a = b := by
  have := bl_total _ _ h k
  rw [ByteArray.toList_eq, ByteArray.toList_eq] at this
  exact bytes_inj this
end Go.Proofs.YtfjblenkcfdbiaaGreat
