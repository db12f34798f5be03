/-
  Joined: Book3, Book4.
-/
import Derived.Test.YtehpdbbkbdfobacGreatDoorBook2
import Derived.Test.YtehpdbbkbdfobacGreatDoorOwn
import Derived.Test.YtehpdbbkbdfobacGreatDoorSpecKinds

/-
  Copies of entries and of books; comparisons; sizes.
-/
namespace Go.Proofs.YtehpdbbkbdfobacGreatDoor
open Go.RowKit

/-- Entries in blocks of their own, from lo on. -/
def EntsOwn (lo : Nat) (w : World) (v : Value) (l : List Ent) : Prop :=
  ∃ (b : Nat) (rows : List (List Value)), lo ≤ b ∧ v = .slice (some ⟨b, 0, none⟩) l.length l.length ∧ HeldL w b l.length 2 rows ∧ rows.length = l.length ∧
    ∀ (i : Nat) (e : Ent), l[i]? = some e → ∃ fb : Nat, fb ≠ b ∧ lo ≤ fb ∧ rows[i]? = some [.string e.name, .slice (some ⟨fb, 0, none⟩) e.fs.length e.fs.length] ∧ HeldL w fb e.fs.length 3 (e.fs.map fldRow)
theorem HeldL.flds {wr : World} {B n : Nat} {l : List Fld} (h : HeldL wr B n 3 (l.map fldRow)) (hn : l.length = n) (cap : Nat) (hc : n ≤ cap) (hm : cap ≤ maxLen) : FldsAt wr (.slice (some ⟨B, 0, none⟩) n cap) l :=
  ⟨some ⟨B, 0, none⟩, cap, by rw [hn], by omega, hm, fun i f hf => ⟨B, 0, rfl, by
    have hr : (l.map fldRow)[i]? = some (fldRow f) := by rw [List.getElem?_map, hf]; rfl
    refine ⟨?_, ?_, ?_⟩
    · simpa using h.cell hr (j := 0) (v := .int .i64 f.what) rfl
    · simpa using h.cell hr (j := 1) (v := .int .i64 f.num) rfl
    · simpa using h.cell hr (j := 2) (v := .string f.v) rfl⟩⟩
theorem EntsOwn.at {lo : Nat} {w : World} {v : Value} {l : List Ent} (h : EntsOwn lo w v l) (hm : l.length ≤ 1048576) (hf : ∀ e ∈ l, e.fs.length ≤ 1048576) : EntsAt w v l := by
  obtain ⟨b, rows, _, rfl, hh, _, hr⟩ := h
  refine ⟨some ⟨b, 0, none⟩, l.length, rfl, Nat.le_refl _, by unfold maxLen; omega, fun i e he => ⟨b, 0, rfl, ?_⟩⟩
  obtain ⟨fb, _, _, h1, h2⟩ := hr i e he
  refine ⟨_, ?_, ?_, h2.flds rfl _ (Nat.le_refl _) (by have := hf e (List.mem_of_getElem? he); unfold maxLen; omega)⟩
  · simpa using hh.cell h1 (j := 0) rfl
  · simpa using hh.cell h1 (j := 1) rfl
theorem EntsOwn.keep {lo : Nat} {w w' : World} {v : Value} {l : List Ent} (h : EntsOwn lo w v l) (hb : Below w.heap.size w w') : EntsOwn lo w' v l := by
  obtain ⟨b, rows, hl, hv, hh, hn, hr⟩ := h
  refine ⟨b, rows, hl, hv, hh.keep hb, hn, fun i e he => ?_⟩
  obtain ⟨fb, h0, h1, h2, h3⟩ := hr i e he
  exact ⟨fb, h0, h1, h2, h3.keep hb⟩
theorem EntsOwn.other {lo : Nat} {w : World} {v : Value} {l : List Ent} (h : EntsOwn lo w v l) {k o : Nat} (hk : k < lo) (x : Value) : EntsOwn lo (w.setCell ⟨k, o, none⟩ x) v l := by
  obtain ⟨b, rows, hl, hv, hh, hn, hr⟩ := h
  refine ⟨b, rows, hl, hv, hh.other (by omega) x, hn, fun i e he => ?_⟩
  obtain ⟨fb, h0, h1, h2, h3⟩ := hr i e he
  exact ⟨fb, h0, h1, h2, h3.other (by omega) x⟩
theorem EntsOwn.mono {lo lo' : Nat} {w : World} {v : Value} {l : List Ent} (h : EntsOwn lo w v l) (hlo : lo' ≤ lo) : EntsOwn lo' w v l := by
  obtain ⟨b, rows, hl, hv, hh, hn, hr⟩ := h
  refine ⟨b, rows, by omega, hv, hh, hn, fun i e he => ?_⟩
  obtain ⟨fb, h0, h1, h2, h3⟩ := hr i e he
  exact ⟨fb, h0, by omega, h2, h3⟩

set_option maxHeartbeats 1600000 in
theorem toEntry_own (e : Ent) (fv : Value) (w : World) (hv : FldsAt w fv e.fs) (hn : e.fs.length ≤ 1048576) :
    Calls Tryz.prog 67 #[.agg #[.string e.name, fv]] w fun x w' => ∃ fb : Nat, w.heap.size + 3 ≤ fb ∧ x = .returned (.agg #[.string e.name, .slice (some ⟨fb, 0, none⟩) e.fs.length e.fs.length]) ∧ HeldL w' fb e.fs.length 3 (e.fs.map fldRow) ∧ Below w.heap.size w w' := by
  have HV : Hid (FldsAt w fv e.fs) := hv
  obtain ⟨a, cap, rfl, -, -, -⟩ := hv
  obtain ⟨nm, fs⟩ := e
  dsimp only at *
  have HO0 : Hid (OwnAt w (((w.alloc (.cells #[.string nm, .slice a fs.length cap] 109)).alloc (.cells #[.string ⟨#[]⟩, .slice none 0 0] 114)).alloc (.cells #[.string nm, .slice none 0 0] 114)) [[.string nm, .slice a fs.length cap], [.string ⟨#[]⟩, .slice none 0 0], [.string nm, .slice none 0 0]]) :=
    (((OwnAt.start w).push rfl _ _).push (by simp) _ _).push (by simp) _ _
  go_enter Tryz.func67, Tryz.ntmps67
  go_wp2_with fail
  refine (toFields_any _ fs _ (HV.out.keep HO0.out.below) hn).mono ?_
  rintro x w1 ⟨rfl, hf1⟩
  have HO1 : Hid (OwnAt w w1 _) := HO0.out.call hf1.below
  simp only [World.size_alloc] at hf1 ⊢
  have HH : Hid (HeldL w1 (w.heap.size + 1 + 1 + 1) fs.length 3 (fs.map fldRow)) := hf1.held
  clear hf1 HO0
  have q0 : w1.cell? ⟨w.heap.size + 1, 0, none⟩ = some (.string ⟨#[]⟩) := (HO1.out.has 1 _ rfl 0 _ rfl).1
  have q1 : w1.cell? ⟨w.heap.size + 1, 1, none⟩ = some (.slice none 0 0) := (HO1.out.has 1 _ rfl 1 _ rfl).1
  have p0 : w1.cell? ⟨w.heap.size + 1 + 1, 0, none⟩ = some (.string nm) := (HO1.out.has 2 _ rfl 0 _ rfl).1
  have p1 : w1.cell? ⟨w.heap.size + 1 + 1, 1, none⟩ = some (.slice none 0 0) := (HO1.out.has 2 _ rfl 1 _ rfl).1
  have g0 : w1.frozen? ⟨w.heap.size + 1, 0, none⟩ = false := (HO1.out.has 1 _ rfl 0 _ rfl).2
  have g1 : w1.frozen? ⟨w.heap.size + 1, 1, none⟩ = false := (HO1.out.has 1 _ rfl 1 _ rfl).2
  have g2 : w1.frozen? ⟨w.heap.size + 1 + 1, 1, none⟩ = false := (HO1.out.has 2 _ rfl 1 _ rfl).2
  go_wp2
  refine bodyPost_ret (v := .agg #[.string nm, .slice (some ⟨w.heap.size + 1 + 1 + 1, 0, none⟩) fs.length fs.length]) (by simp [results, Tryz.results67, go_sem, *]) rfl ⟨w.heap.size + 1 + 1 + 1, by omega, rfl, ((HH.out.other (by omega) _).other (by omega) _).other (by omega) _, ?_⟩
  exact below_set (below_set (below_set HO1.out.below _ _ (by omega) _) _ _ (by omega) _) _ _ (by omega) _

/-- The first k entries are copied. -/
structure EntsTo (w wr : World) (B : Nat) (l : List Ent) (k : Nat) (rows : List (List Value)) : Prop where
  fill : FilledL w wr B l.length 2 rows
  len : rows.length = k
  has : ∀ (i : Nat) (e : Ent), i < k → l[i]? = some e → ∃ fb : Nat, fb ≠ B ∧ w.heap.size ≤ fb ∧ rows[i]? = some [.string e.name, .slice (some ⟨fb, 0, none⟩) e.fs.length e.fs.length] ∧ HeldL wr fb e.fs.length 3 (e.fs.map fldRow)
theorem setCells_held {wr : World} {B o : Nat} {vs : List Value} {b n c : Nat} {rows : List (List Value)} (h : HeldL wr b n c rows) (hb : B ≠ b) : HeldL (wr.setCells B o vs) b n c rows := by
  induction vs generalizing wr o with
  | nil => exact h
  | cons v vs ih => exact ih (h.other hb v)
theorem EntsTo.next {w wr w1 : World} {B k fb : Nat} {l : List Ent} {rows : List (List Value)} {e : Ent} (h : EntsTo w wr B l k rows) (hk : k < l.length) (he : l[k]? = some e) (hb : Below wr.heap.size wr w1) (hfb : wr.heap.size ≤ fb) (hh : HeldL w1 fb e.fs.length 3 (e.fs.map fldRow)) :
    EntsTo w (w1.setCells B (k * 2) [.string e.name, .slice (some ⟨fb, 0, none⟩) e.fs.length e.fs.length]) B l (k + 1) (rows ++ [[.string e.name, .slice (some ⟨fb, 0, none⟩) e.fs.length e.fs.length]]) := by
  have hne : B ≠ fb := by have := h.fill.big; omega
  have hst := (h.fill.call hb).store (r := [.string e.name, .slice (some ⟨fb, 0, none⟩) e.fs.length e.fs.length]) (by rw [h.len]; exact hk) rfl
  rw [h.len] at hst
  refine ⟨hst, by simp [h.len], fun i e' hi he' => ?_⟩
  by_cases ei : i = k
  · subst ei
    rw [he] at he'; cases he'
    refine ⟨fb, Ne.symm hne, by have := h.fill.below.size; omega, ?_, setCells_held hh hne⟩
    rw [List.getElem?_append_right (by rw [h.len]; exact Nat.le_refl _), h.len]; simp
  · obtain ⟨fb', h0, h1, h2, h3⟩ := h.has i e' (by omega) he'
    refine ⟨fb', h0, h1, ?_, setCells_held (h3.keep hb) (Ne.symm h0)⟩
    rw [List.getElem?_append_left (by rw [h.len]; omega)]; exact h2
theorem EntsTo.done {w wr : World} {B lo : Nat} {l : List Ent} {rows : List (List Value)} (h : EntsTo w wr B l l.length rows) (hlo : lo ≤ w.heap.size) : EntsOwn lo wr (.slice (some ⟨B, 0, none⟩) l.length l.length) l :=
  ⟨B, rows, by have := h.fill.old; omega, rfl, h.fill.held, h.len, fun i e he => by
    obtain ⟨fb, h0, h1, h2, h3⟩ := h.has i e (List.getElem?_eq_some_iff.1 he).1 he
    exact ⟨fb, h0, by omega, h2, h3⟩⟩

set_option maxHeartbeats 1600000 in
theorem toEntries_own (v : Value) (l : List Ent) (w : World) (hv : EntsAt w v l) (hn : l.length ≤ 1048576) (hf : ∀ e ∈ l, e.fs.length ≤ 1048576) :
    Calls Tryz.prog 28 #[v] w fun x w' => ∃ u, x = .returned u ∧ EntsOwn w.heap.size w' u l ∧ Below w.heap.size w w' := by
  obtain ⟨a, cap, rfl, hlc, hcm, hc⟩ := hv
  unfold maxLen at hcm
  have HC : Hid (∀ i f, l[i]? = some f → ∃ b off, a = some ⟨b, off, none⟩ ∧ EntAt w b (off + i * 2) f) := hc
  have HF : Hid (∀ e ∈ l, e.fs.length ≤ 1048576) := hf
  clear hc hf
  obtain ⟨i0, hi, hz0, hz1, hz2⟩ := info_parts infoEntry
  have hmk : ∀ w : World, (Instr.makeSlice 39 (.int .i64 (l.length : Int)) (.int .i64 (l.length : Int))).run Tryz.prog w = .ok (.slice (some ⟨w.heap.size, 0, none⟩) l.length l.length) (w.alloc (.cells (madeCells (Value.agg #[.string ByteArray.empty, .slice none 0 0]).cells (l.length * 2)) 114)) := fun w => by
    have h := run_make (P := Tryz.prog) w 39 114 i0 _ Tryz.underlying39 hi hz0 .i64 .i64 l.length l.length (by omega) (by omega) (by rw [hz2]; omega) (by omega)
    rw [hz1] at h
    simpa using h
  have HM : Hid ((madeCells (Value.agg #[.string ByteArray.empty, .slice none 0 0]).cells (l.length * 2)).size = l.length * 2) := size_madeCells _ _
  generalize madeCells (Value.agg #[.string ByteArray.empty, .slice none 0 0]).cells (l.length * 2) = C at hmk HM
  clear hi hz0 hz1 hz2
  go_enter Tryz.func28, Tryz.ntmps28
  go_wp2
  go_loopw [4] (fun i wr => ∃ (k : Nat) (rows : List (List Value)), k ≤ l.length ∧ i = .int .i64 k ∧ EntsTo w wr w.heap.size l k rows) (fun i _ => l.length - (intOf i).toNat)
  case atStart => exact ⟨0, [], Nat.zero_le _, rfl, FilledL.start w C _ _ _ HM.out, rfl, fun i e hi => absurd hi (Nat.not_lt_zero _)⟩
  case round =>
    obtain ⟨k, rows, hk, rfl, hf⟩ := hrel
    by_cases hlt : k < l.length
    · obtain ⟨b, off, rfl, hc⟩ := HC.out k _ (eat_get hlt)
      obtain ⟨fv, d0, d1, hfl⟩ := (hc.keep hf.fill.below)
      have HFL : Hid (FldsAt wr fv (eat l k).fs) := hfl
      have HK : Hid (l[k]? = some (eat l k)) := eat_get hlt
      have HFK : Hid ((eat l k).fs.length ≤ 1048576) := HF.out _ (List.mem_of_getElem? (eat_get hlt))
      obtain ⟨fa, fc, rfl, -, -, -⟩ := hfl
      clear hc HC
      generalize eat l k = t at *
      have hk0 : (0 : Int) ≤ (k : Int) := by omega
      have hk1 : (k : Int) < (l.length : Int) := by omega
      go_wp2_with fail
      refine (toEntry_own t _ _ HFL.out HFK.out).mono ?_
      rintro x w1 ⟨fb, hfb, rfl, hh, hb1⟩
      have hf1 := hf.fill.call hb1
      obtain ⟨⟨v0, e0⟩, f0⟩ := hf1.free hlt (j := 0) (by omega)
      obtain ⟨⟨v1, e1⟩, f1⟩ := hf1.free hlt (j := 1) (by omega)
      simp only [Nat.add_zero] at e0 f0
      have hnext := hf.next hlt HK.out hb1 (by omega) hh
      have HN : Hid (EntsTo w (w1.setCells w.heap.size (k * 2) [.string t.name, .slice (some ⟨fb, 0, none⟩) t.fs.length t.fs.length]) w.heap.size l (k + 1) _) := hnext
      clear hf1 hnext hh hb1
      go_wp2
      exact ⟨⟨k + 1, _, by omega, by go_num, HN.out⟩, by simp [intOf]; omega⟩
    · go_wp2
      go_ret
      obtain rfl : k = l.length := by omega
      exact ⟨_, rfl, hf.done (Nat.le_refl _), hf.fill.below⟩

set_option maxHeartbeats 800000 in
theorem eqEntries_any (v v' : Value) (l : List Ent) (w : World) (hv : EntsAt w v l) (hv' : EntsAt w v' l) :
    Calls Tryz.prog 35 #[v, v'] w fun e w' => e = .returned (.bool true) ∧ Below w.heap.size w w' := by
  obtain ⟨a, cap, rfl, hlc, hcm, hc⟩ := hv
  obtain ⟨a', cap', rfl, hlc', hcm', hc'⟩ := hv'
  unfold maxLen at hcm hcm'
  have HC : Hid (∀ i f, l[i]? = some f → ∃ b off, a = some ⟨b, off, none⟩ ∧ EntAt w b (off + i * 2) f) := hc
  have HC' : Hid (∀ i f, l[i]? = some f → ∃ b off, a' = some ⟨b, off, none⟩ ∧ EntAt w b (off + i * 2) f) := hc'
  clear hc hc'
  go_enter Tryz.func35, Tryz.ntmps35
  go_wp2
  go_loopw [5] (fun i w' => ∃ k : Nat, k ≤ l.length ∧ i = .int .i64 k ∧ Below w.heap.size w w') (fun i _ => l.length - (intOf i).toNat)
  case atStart => exact ⟨0, Nat.zero_le _, rfl, Below.refl _ _⟩
  case round =>
    obtain ⟨k, hk, rfl, hb⟩ := hrel
    by_cases hlt : k < l.length
    · obtain ⟨b, off, rfl, hc⟩ := HC.out k _ (eat_get hlt)
      obtain ⟨b', off', rfl, hc'⟩ := HC'.out k _ (eat_get hlt)
      obtain ⟨fv, d0, d1, hfl⟩ := hc.keep hb
      obtain ⟨fv', d0', d1', hfl'⟩ := hc'.keep hb
      have HFL : Hid (FldsAt wr fv (eat l k).fs ∧ FldsAt wr fv' (eat l k).fs) := ⟨hfl, hfl'⟩
      obtain ⟨fa, fc, rfl, -, -, -⟩ := hfl
      obtain ⟨fa', fc', rfl, -, -, -⟩ := hfl'
      clear hc hc' HC HC'
      generalize eat l k = t at *
      have hk0 : (0 : Int) ≤ (k : Int) := by omega
      have hk1 : (k : Int) < (l.length : Int) := by omega
      go_wp2
      go_region_held3 (fun w' => (w'.cell? ⟨b, off + k * 2, none⟩ = some (.string t.name) ∧ w'.cell? ⟨b, off + k * 2 + 1, none⟩ = some (.slice fa t.fs.length fc) ∧
          w'.cell? ⟨b', off' + k * 2, none⟩ = some (.string t.name) ∧ w'.cell? ⟨b', off' + k * 2 + 1, none⟩ = some (.slice fa' t.fs.length fc')) ∧ Below wr.heap.size wr w')
        (first | exact ⟨⟨by simpa using d0, by simpa using d1, by simpa using d0', by simpa using d1'⟩, (Below.refl _ _).drew⟩ | (obtain ⟨⟨s0, s1, s2, s3⟩, s4⟩ := ‹_ ∧ Below wr.heap.size wr _›; exact ⟨⟨cell_keep hb1 (Nat.le_refl _) s0, cell_keep hb1 (Nat.le_refl _) s1, cell_keep hb1 (Nat.le_refl _) s2, cell_keep hb1 (Nat.le_refl _) s3⟩, below_step s4 hb1⟩))
        (first | (go_at_call 82; refine (eqEntry_any t _ _ _ (HFL.out.1.keep (‹_ ∧ Below wr.heap.size wr _›).2) (HFL.out.2.keep (‹_ ∧ Below wr.heap.size wr _›).2)).mono ?_; rintro e w1 ⟨rfl, hb1⟩))
      go_wp2
      exact ⟨⟨k + 1, by omega, by go_num, below_step hb (‹_ ∧ Below wr.heap.size wr w1›).2⟩, by simp [intOf]; omega⟩
    · go_wp2
      go_ret
      exact ⟨rfl, hb⟩
end Go.Proofs.YtehpdbbkbdfobacGreatDoor

/-
  Books: sizes, copies, comparisons.
-/
namespace Go.Proofs.YtehpdbbkbdfobacGreatDoor
open Go.RowKit

/-- A book that lies in memory. -/
structure BookAt (w : World) (vk vp ve : Value) (ks ps : List Tri) (es : List Ent) : Prop where
  k : TrisAt w vk ks
  p : TrisAt w vp ps
  e : EntsAt w ve es
theorem BookAt.keep {w w' : World} {vk vp ve : Value} {ks ps : List Tri} {es : List Ent} (h : BookAt w vk vp ve ks ps es) (hb : Below w.heap.size w w') : BookAt w' vk vp ve ks ps es := ⟨h.k.keep hb, h.p.keep hb, h.e.keep hb⟩
structure BNames (ks ps : List Tri) (es : List Ent) : Prop where
  k : Names ks
  p : Names ps
  e : ENames es
/-- .. in blocks of its own. -/
structure BookOwn (lo : Nat) (w : World) (vk vp ve : Value) (ks ps : List Tri) (es : List Ent) : Prop where
  k : TrisOwn lo w vk ks
  p : TrisOwn lo w vp ps
  e : EntsOwn lo w ve es
  d : ∀ b n c b' n' c', vk = .slice (some ⟨b, 0, none⟩) n c ∨ vp = .slice (some ⟨b, 0, none⟩) n c → ve = .slice (some ⟨b', 0, none⟩) n' c' → b ≠ b'
theorem BookOwn.keep {lo : Nat} {w w' : World} {vk vp ve : Value} {ks ps : List Tri} {es : List Ent} (h : BookOwn lo w vk vp ve ks ps es) (hb : Below w.heap.size w w') : BookOwn lo w' vk vp ve ks ps es := ⟨h.k.keep hb, h.p.keep hb, h.e.keep hb, h.d⟩
def szBook (ks ps : List Tri) (es : List Ent) : Nat := szTris ks + szTris ps + szEnts es
/-- A book that is not too great: so its lists are not. -/
structure BSmall (ks ps : List Tri) (es : List Ent) : Prop where
  k : ks.length ≤ 1048576
  p : ps.length ≤ 1048576
  e : es.length ≤ 1048576
  f : ∀ e ∈ es, e.fs.length ≤ 1048576
  n : ∀ e ∈ es, e.name.size ≤ 1048576
  v : ∀ e ∈ es, ∀ f ∈ e.fs, f.v.size ≤ 1048576
theorem BSmall.of {ks ps : List Tri} {es : List Ent} (h : szBook ks ps es ≤ 1048576) : BSmall ks ps es := by
  unfold szBook szTris szEnts at h
  have one : ∀ e ∈ es, szEnt e ≤ 1048576 := fun e he => by have := sumN_mem szEnt es e he; omega
  refine ⟨by omega, by omega, by omega, fun e he => ?_, fun e he => ?_, fun e he f hf => ?_⟩
  · have := one e he; unfold szEnt szFlds at this; omega
  · have := one e he; unfold szEnt szFlds at this; omega
  · have := one e he; unfold szEnt szFlds at this; have h2 : f.v.size ≤ _ := sumN_mem (fun f : Fld => f.v.size) e.fs f hf; omega
theorem BookOwn.at {lo : Nat} {w : World} {vk vp ve : Value} {ks ps : List Tri} {es : List Ent} (h : BookOwn lo w vk vp ve ks ps es) (hs : BSmall ks ps es) : BookAt w vk vp ve ks ps es := ⟨h.k.at hs.k, h.p.at hs.p, h.e.at hs.e hs.f⟩

set_option maxHeartbeats 800000 in
theorem szBook_any (vk vp ve : Value) (ks ps : List Tri) (es : List Ent) (left : Int) (w : World) (hB : BookAt w vk vp ve ks ps es) (nB : BNames ks ps es) (hl : 0 ≤ left) (hl' : left ≤ 1048576) :
    Calls Tryz.prog 6 #[.agg #[vk, vp, ve], .int .i64 left] w fun e w' => e = .returned (.int .i64 (szR (szBook ks ps es) left)) ∧ Below w.heap.size w w' := by
  have HB : Hid (BookAt w vk vp ve ks ps es) := hB
  have NB : Hid (BNames ks ps es) := nB
  obtain ⟨⟨ak, ck, rfl, -, -, -⟩, ⟨ap, cp, rfl, -, -, -⟩, ⟨ae, ce, rfl, -, -, -⟩⟩ := hB
  have HZ : Hid (szBook ks ps es = szTris ks + szTris ps + szEnts es) := rfl
  have HX0 : Hid (OwnAt w (w.alloc (.cells #[.slice ak ks.length ck, .slice ap ps.length cp, .slice ae es.length ce] 28)) [[.slice ak ks.length ck, .slice ap ps.length cp, .slice ae es.length ce]]) := (OwnAt.start w).push rfl _ _
  clear nB
  go_enter Tryz.func6, Tryz.ntmps6
  go_wp2_with fail
  refine (szBase_any _ _ ks ps left _ (HB.out.k.keep HX0.out.below) (HB.out.p.keep HX0.out.below) NB.out.k NB.out.p hl hl').mono ?_
  rintro e w1 ⟨rfl, hb1⟩
  have HX1 : Hid (OwnAt w w1 _) := HX0.out.call hb1
  clear HX0 hb1
  by_cases h1 : ((szTris ks + szTris ps : Nat) : Int) ≤ left
  · rw [szR_pos h1]
    have hge : 0 ≤ left - ((szTris ks + szTris ps : Nat) : Int) := by omega
    have hle : left - ((szTris ks + szTris ps : Nat) : Int) ≤ 1048576 := by omega
    have HR : Hid (szR (szEnts es) (left - ((szTris ks + szTris ps : Nat) : Int)) = szR (szBook ks ps es) left ∧ -1 ≤ szR (szBook ks ps es) left) := by
      refine ⟨?_, (szR_le _ _ hl).2⟩
      rw [HZ.out]; unfold szR; split <;> split <;> omega
    generalize left - ((szTris ks + szTris ps : Nat) : Int) = r at *
    have y0 : w1.cell? ⟨w.heap.size, 0, none⟩ = some (.slice ak ks.length ck) := (HX1.out.has 0 _ rfl 0 _ rfl).1
    have y1 : w1.cell? ⟨w.heap.size, 1, none⟩ = some (.slice ap ps.length cp) := (HX1.out.has 0 _ rfl 1 _ rfl).1
    have y2 : w1.cell? ⟨w.heap.size, 2, none⟩ = some (.slice ae es.length ce) := (HX1.out.has 0 _ rfl 2 _ rfl).1
    clear h1
    go_wp2_with fail
    refine (szEntries_any _ es r _ (HB.out.e.keep HX1.out.below) NB.out.e hge hle).mono ?_
    rintro e w2 ⟨rfl, hb2⟩
    rw [HR.out.1]
    have h3 := HR.out.2
    have HFIN : Hid (Below w.heap.size w w2 ∧ ∀ q : Int, q = szR (szBook ks ps es) left → Ending.returned (.int .i64 q) = .returned (.int .i64 (szR (szBook ks ps es) left))) := ⟨below_step HX1.out.below hb2, fun q hq => by rw [hq]⟩
    generalize hq : szR (szBook ks ps es) left = q at *
    have HQ : Hid (szR (szBook ks ps es) left = q) := hq
    clear hq hb2
    by_cases h4 : q < 0
    · obtain rfl : q = -1 := by omega
      go_wp2
      go_ret
      exact ⟨ret_int HQ.out.symm, HFIN.out.1⟩
    · go_wp2
      go_ret
      exact ⟨ret_int HQ.out.symm, HFIN.out.1⟩
  · rw [szR_neg h1]
    have HQ : Hid (szR (szBook ks ps es) left = -1) := szR_neg (by rw [HZ.out]; omega)
    clear h1
    go_wp2
    go_ret
    exact ⟨ret_int HQ.out.symm, HX1.out.below⟩

set_option maxHeartbeats 800000 in
theorem eqBook_any (vk vp ve uk up ue : Value) (ks ps : List Tri) (es : List Ent) (w : World) (hB : BookAt w vk vp ve ks ps es) (hB' : BookAt w uk up ue ks ps es) :
    Calls Tryz.prog 11 #[.agg #[vk, vp, ve], .agg #[uk, up, ue]] w fun e w' => e = .returned (.bool true) ∧ Below w.heap.size w w' := by
  have HB : Hid (BookAt w vk vp ve ks ps es ∧ BookAt w uk up ue ks ps es) := ⟨hB, hB'⟩
  obtain ⟨⟨ak, ck, rfl, -, -, -⟩, ⟨ap, cp, rfl, -, -, -⟩, ⟨ae, ce, rfl, -, -, -⟩⟩ := hB
  obtain ⟨⟨ak', ck', rfl, -, -, -⟩, ⟨ap', cp', rfl, -, -, -⟩, ⟨ae', ce', rfl, -, -, -⟩⟩ := hB'
  have HX0 : Hid (OwnAt w ((w.alloc (.cells #[.slice ak ks.length ck, .slice ap ps.length cp, .slice ae es.length ce] 41)).alloc (.cells #[.slice ak' ks.length ck', .slice ap' ps.length cp', .slice ae' es.length ce'] 41)) [[.slice ak ks.length ck, .slice ap ps.length cp, .slice ae es.length ce], [.slice ak' ks.length ck', .slice ap' ps.length cp', .slice ae' es.length ce']]) := ((OwnAt.start w).push rfl _ _).push (by simp) _ _
  go_enter Tryz.func11, Tryz.ntmps11
  go_wp2_with fail
  refine (eqBase_any _ _ _ _ ks ps _ (HB.out.1.k.keep HX0.out.below) (HB.out.1.p.keep HX0.out.below) (HB.out.2.k.keep HX0.out.below) (HB.out.2.p.keep HX0.out.below)).mono ?_
  rintro e w1 ⟨rfl, hb1⟩
  have HX1 : Hid (OwnAt w w1 _) := HX0.out.call hb1
  clear HX0 hb1
  have y0 : w1.cell? ⟨w.heap.size, 0, none⟩ = some (.slice ak ks.length ck) := (HX1.out.has 0 _ rfl 0 _ rfl).1
  have y1 : w1.cell? ⟨w.heap.size, 1, none⟩ = some (.slice ap ps.length cp) := (HX1.out.has 0 _ rfl 1 _ rfl).1
  have y2 : w1.cell? ⟨w.heap.size, 2, none⟩ = some (.slice ae es.length ce) := (HX1.out.has 0 _ rfl 2 _ rfl).1
  have z0 : w1.cell? ⟨w.heap.size + 1, 0, none⟩ = some (.slice ak' ks.length ck') := (HX1.out.has 1 _ rfl 0 _ rfl).1
  have z1 : w1.cell? ⟨w.heap.size + 1, 1, none⟩ = some (.slice ap' ps.length cp') := (HX1.out.has 1 _ rfl 1 _ rfl).1
  have z2 : w1.cell? ⟨w.heap.size + 1, 2, none⟩ = some (.slice ae' es.length ce') := (HX1.out.has 1 _ rfl 2 _ rfl).1
  go_wp2_with fail
  refine (eqEntries_any _ _ es _ (HB.out.1.e.keep HX1.out.below) (HB.out.2.e.keep HX1.out.below)).mono ?_
  rintro e w2 ⟨rfl, hb2⟩
  go_wp2
  go_ret
  exact ⟨rfl, below_step HX1.out.below hb2⟩

set_option maxHeartbeats 1600000 in
theorem toBook_own (vk vp ve : Value) (ks ps : List Tri) (es : List Ent) (w : World) (hB : BookAt w vk vp ve ks ps es) (sB : BSmall ks ps es) :
    Calls Tryz.prog 8 #[.agg #[vk, vp, ve]] w fun e w' => ∃ uk up ue, e = .returned (.agg #[uk, up, ue]) ∧ BookOwn (w.heap.size + 3) w' uk up ue ks ps es ∧ Below w.heap.size w w' := by
  have HB : Hid (BookAt w vk vp ve ks ps es) := hB
  have SB : Hid (BSmall ks ps es) := sB
  obtain ⟨⟨ak, ck, rfl, -, -, -⟩, ⟨ap, cp, rfl, -, -, -⟩, ⟨ae, ce, rfl, -, -, -⟩⟩ := hB
  have HO0 : Hid (OwnAt w (((w.alloc (.cells #[.slice ak ks.length ck, .slice ap ps.length cp, .slice ae es.length ce] 28)).alloc (.cells #[.slice none 0 0, .slice none 0 0, .slice none 0 0] 41)).alloc (.cells #[.slice none 0 0, .slice none 0 0, .slice none 0 0] 41)) [[.slice ak ks.length ck, .slice ap ps.length cp, .slice ae es.length ce], [.slice none 0 0, .slice none 0 0, .slice none 0 0], [.slice none 0 0, .slice none 0 0, .slice none 0 0]]) :=
    (((OwnAt.start w).push rfl _ _).push (by simp) _ _).push (by simp) _ _
  clear sB
  go_enter Tryz.func8, Tryz.ntmps8
  go_wp2_with fail
  refine (toBase_own _ _ ks ps _ (HB.out.k.keep HO0.out.below) (HB.out.p.keep HO0.out.below) SB.out.k SB.out.p).mono ?_
  rintro e w1 ⟨uk, up, rfl, tk, tp, hb1⟩
  have HO1 : Hid (OwnAt w w1 _) := HO0.out.call hb1
  simp only [World.size_alloc] at tk tp
  have HT1 : Hid (TrisOwn (w.heap.size + 3) w1 uk ks ∧ TrisOwn (w.heap.size + 3) w1 up ps) := ⟨tk.mono (by omega), tp.mono (by omega)⟩
  obtain ⟨bk, -, hek, hbk⟩ := tk
  obtain ⟨bp, -, hep, hbp⟩ := tp
  subst hek hep
  have HBIG : Hid (bk < w1.heap.size ∧ bp < w1.heap.size) := ⟨hbk.big, hbp.big⟩
  clear hbk hbp
  clear HO0 hb1
  have HO2 : Hid (OwnAt w ((w1.setCell ⟨w.heap.size + 1 + 1, 0, none⟩ (.slice (some ⟨bk, 0, none⟩) ks.length ks.length)).setCell ⟨w.heap.size + 1 + 1, 1, none⟩ (.slice (some ⟨bp, 0, none⟩) ps.length ps.length)) [[.slice ak ks.length ck, .slice ap ps.length cp, .slice ae es.length ce], [.slice none 0 0, .slice none 0 0, .slice none 0 0], [.slice (some ⟨bk, 0, none⟩) ks.length ks.length, .slice (some ⟨bp, 0, none⟩) ps.length ps.length, .slice none 0 0]]) :=
    (HO1.out.set (i := 2) (j := 0) rfl (by simp) _).set (i := 2) (j := 1) rfl (by simp) _
  have HT2 : Hid (TrisOwn (w.heap.size + 3) ((w1.setCell ⟨w.heap.size + 1 + 1, 0, none⟩ (.slice (some ⟨bk, 0, none⟩) ks.length ks.length)).setCell ⟨w.heap.size + 1 + 1, 1, none⟩ (.slice (some ⟨bp, 0, none⟩) ps.length ps.length)) (.slice (some ⟨bk, 0, none⟩) ks.length ks.length) ks ∧ TrisOwn (w.heap.size + 3) ((w1.setCell ⟨w.heap.size + 1 + 1, 0, none⟩ (.slice (some ⟨bk, 0, none⟩) ks.length ks.length)).setCell ⟨w.heap.size + 1 + 1, 1, none⟩ (.slice (some ⟨bp, 0, none⟩) ps.length ps.length)) (.slice (some ⟨bp, 0, none⟩) ps.length ps.length) ps) :=
    ⟨(HT1.out.1.other (by omega) _).other (by omega) _, (HT1.out.2.other (by omega) _).other (by omega) _⟩
  have d0 : w1.cell? ⟨w.heap.size, 0, none⟩ = some (.slice ak ks.length ck) := (HO1.out.has 0 _ rfl 0 _ rfl).1
  have d1 : w1.cell? ⟨w.heap.size, 1, none⟩ = some (.slice ap ps.length cp) := (HO1.out.has 0 _ rfl 1 _ rfl).1
  have d2 : w1.cell? ⟨w.heap.size, 2, none⟩ = some (.slice ae es.length ce) := (HO1.out.has 0 _ rfl 2 _ rfl).1
  have o0 : w1.cell? ⟨w.heap.size + 1 + 1, 0, none⟩ = some (.slice none 0 0) := (HO1.out.has 2 _ rfl 0 _ rfl).1
  have o1 : w1.cell? ⟨w.heap.size + 1 + 1, 1, none⟩ = some (.slice none 0 0) := (HO1.out.has 2 _ rfl 1 _ rfl).1
  have o2 : w1.cell? ⟨w.heap.size + 1 + 1, 2, none⟩ = some (.slice none 0 0) := (HO1.out.has 2 _ rfl 2 _ rfl).1
  have f0 : w1.frozen? ⟨w.heap.size + 1 + 1, 0, none⟩ = false := (HO1.out.has 2 _ rfl 0 _ rfl).2
  have f1 : w1.frozen? ⟨w.heap.size + 1 + 1, 1, none⟩ = false := (HO1.out.has 2 _ rfl 1 _ rfl).2
  go_wp2_with fail
  refine (toEntries_own _ es _ (HB.out.e.keep HO2.out.below) SB.out.e SB.out.f).mono ?_
  rintro e w2 ⟨ue, rfl, te, hb2⟩
  have HO3 : Hid (OwnAt w w2 _) := HO2.out.call hb2
  have hlo := HO2.out.big
  have HT3 : Hid (TrisOwn (w.heap.size + 3) w2 _ ks ∧ TrisOwn (w.heap.size + 3) w2 _ ps ∧ EntsOwn (w.heap.size + 3) w2 ue es) := ⟨HT2.out.1.keep hb2, HT2.out.2.keep hb2, te.mono hlo⟩
  obtain ⟨be, rows, hbe, hee, -, -, -⟩ := te
  have HSEP : Hid (bk ≠ be ∧ bp ≠ be) := by
    have h1 := HBIG.out.1
    have h2 := HBIG.out.2
    simp at hbe
    exact ⟨by omega, by omega⟩
  clear hbe
  subst hee
  clear HO2 HT2 HO1 HT1 d0 d1 d2 o0 o1 o2 f0 f1 hlo hb2
  have q0 : w2.cell? ⟨w.heap.size + 1, 0, none⟩ = some (.slice none 0 0) := (HO3.out.has 1 _ rfl 0 _ rfl).1
  have q1 : w2.cell? ⟨w.heap.size + 1, 1, none⟩ = some (.slice none 0 0) := (HO3.out.has 1 _ rfl 1 _ rfl).1
  have q2 : w2.cell? ⟨w.heap.size + 1, 2, none⟩ = some (.slice none 0 0) := (HO3.out.has 1 _ rfl 2 _ rfl).1
  have p0 : w2.cell? ⟨w.heap.size + 1 + 1, 0, none⟩ = some (.slice (some ⟨bk, 0, none⟩) ks.length ks.length) := (HO3.out.has 2 _ rfl 0 _ rfl).1
  have p1 : w2.cell? ⟨w.heap.size + 1 + 1, 1, none⟩ = some (.slice (some ⟨bp, 0, none⟩) ps.length ps.length) := (HO3.out.has 2 _ rfl 1 _ rfl).1
  have p2 : w2.cell? ⟨w.heap.size + 1 + 1, 2, none⟩ = some (.slice none 0 0) := (HO3.out.has 2 _ rfl 2 _ rfl).1
  have g0 : w2.frozen? ⟨w.heap.size + 1, 0, none⟩ = false := (HO3.out.has 1 _ rfl 0 _ rfl).2
  have g1 : w2.frozen? ⟨w.heap.size + 1, 1, none⟩ = false := (HO3.out.has 1 _ rfl 1 _ rfl).2
  have g2 : w2.frozen? ⟨w.heap.size + 1, 2, none⟩ = false := (HO3.out.has 1 _ rfl 2 _ rfl).2
  have g3 : w2.frozen? ⟨w.heap.size + 1 + 1, 2, none⟩ = false := (HO3.out.has 2 _ rfl 2 _ rfl).2
  go_wp2
  refine bodyPost_ret (v := .agg #[.slice (some ⟨bk, 0, none⟩) ks.length ks.length, .slice (some ⟨bp, 0, none⟩) ps.length ps.length, .slice (some ⟨be, 0, none⟩) es.length es.length]) (by simp [results, Tryz.results8, go_sem, *]) rfl ⟨_, _, _, rfl, ⟨(((HT3.out.1.other (by omega) _).other (by omega) _).other (by omega) _).other (by omega) _, (((HT3.out.2.1.other (by omega) _).other (by omega) _).other (by omega) _).other (by omega) _, (((HT3.out.2.2.other (by omega) _).other (by omega) _).other (by omega) _).other (by omega) _, fun b n c b' n' c' h1 h2 => by
    cases h2
    rcases h1 with h1 | h1 <;> cases h1
    · exact HSEP.out.1
    · exact HSEP.out.2⟩, ?_⟩
  exact below_set (below_set (below_set (below_set HO3.out.below _ _ (by omega) _) _ _ (by omega) _) _ _ (by omega) _) _ _ (by omega) _
end Go.Proofs.YtehpdbbkbdfobacGreatDoor
