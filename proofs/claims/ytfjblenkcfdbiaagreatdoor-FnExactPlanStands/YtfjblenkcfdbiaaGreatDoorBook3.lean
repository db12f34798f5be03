
/-
  Copies of entries and of books; comparisons; sizes.
-/
import Derived.Test.YtfjblenkcfdbiaaGreatDoorBook2
import Derived.Test.YtfjblenkcfdbiaaGreatDoorOwn
import Derived.Test.YtfjblenkcfdbiaaGreatDoorSpecKinds
namespace Go.Proofs.YtfjblenkcfdbiaaGreatDoor
open Go.RowKit

/-- Entries in blocks of their own, from lo on. -/
def EntsOwn (lo : Nat) (w : World) (v : Value) (l : List Ent) : Prop :=
  ∃ (b : Nat) (rows : List (List Value)), lo ≤ b ∧ v = .slice (some ⟨b, 0, none⟩) l.length l.length ∧ HeldL w b l.length 2 rows ∧ rows.length = l.length ∧
    ∀ (i : Nat) (e : Ent), l[i]? = some e → ∃ fb : Nat, fb ≠ b ∧ lo ≤ fb ∧ rows[i]? = some [.string e.name, .slice (some ⟨fb, 0, none⟩) e.fs.length e.fs.length] ∧ HeldL w fb e.fs.length 3 (e.fs.map fldRow)
theorem HeldL.flds {wr : World} {B n : Nat} {l : List Fld} (h : HeldL wr B n 3 (l.map fldRow)) (hn : l.length = n) (cap : Nat) (hc : n ≤ cap) (hm : cap ≤ maxLen) : FldsAt wr (.slice (some ⟨B, 0, none⟩) n cap) l :=
  ⟨some ⟨B, 0, none⟩, cap, by rw [hn], by omega, hm, fun i f hf => ⟨B, 0, rfl, by
    have hr : (l.map fldRow)[i]? = some (fldRow f) := by rw [List.getElem?_map, hf]; rfl
    refine ⟨?_, ?_, ?_⟩
    · simpa using h.cell hr (j := 0) (v := .int .i64 f.what) rfl
    · simpa using h.cell hr (j := 1) (v := .int .i64 f.num) rfl
    · simpa using h.cell hr (j := 2) (v := .string f.v) rfl⟩⟩
theorem EntsOwn.at {lo : Nat} {w : World} {v : Value} {l : List Ent} (h : EntsOwn lo w v l) (hm : l.length ≤ 1048576) (hf : ∀ e ∈ l, e.fs.length ≤ 1048576) : EntsAt w v l := by
  obtain ⟨b, rows, _, rfl, hh, _, hr⟩ := h
  refine ⟨some ⟨b, 0, none⟩, l.length, rfl, Nat.le_refl _, by unfold maxLen; omega, fun i e he => ⟨b, 0, rfl, ?_⟩⟩
  obtain ⟨fb, _, _, h1, h2⟩ := hr i e he
  refine ⟨_, ?_, ?_, h2.flds rfl _ (Nat.le_refl _) (by have := hf e (List.mem_of_getElem? he); unfold maxLen; omega)⟩
  · simpa using hh.cell h1 (j := 0) rfl
  · simpa using hh.cell h1 (j := 1) rfl
theorem EntsOwn.keep {lo : Nat} {w w' : World} {v : Value} {l : List Ent} (h : EntsOwn lo w v l) (hb : Below w.heap.size w w') : EntsOwn lo w' v l := by
  obtain ⟨b, rows, hl, hv, hh, hn, hr⟩ := h
  refine ⟨b, rows, hl, hv, hh.keep hb, hn, fun i e he => ?_⟩
  obtain ⟨fb, h0, h1, h2, h3⟩ := hr i e he
  exact ⟨fb, h0, h1, h2, h3.keep hb⟩
theorem EntsOwn.other {lo : Nat} {w : World} {v : Value} {l : List Ent} (h : EntsOwn lo w v l) {k o : Nat} (hk : k < lo) (x : Value) : EntsOwn lo (w.setCell ⟨k, o, none⟩ x) v l := by
  obtain ⟨b, rows, hl, hv, hh, hn, hr⟩ := h
  refine ⟨b, rows, hl, hv, hh.other (by omega) x, hn, fun i e he => ?_⟩
  obtain ⟨fb, h0, h1, h2, h3⟩ := hr i e he
  exact ⟨fb, h0, h1, h2, h3.other (by omega) x⟩
theorem EntsOwn.mono {lo lo' : Nat} {w : World} {v : Value} {l : List Ent} (h : EntsOwn lo w v l) (hlo : lo' ≤ lo) : EntsOwn lo' w v l := by
  obtain ⟨b, rows, hl, hv, hh, hn, hr⟩ := h
  refine ⟨b, rows, by omega, hv, hh, hn, fun i e he => ?_⟩
  obtain ⟨fb, h0, h1, h2, h3⟩ := hr i e he
  exact ⟨fb, h0, by omega, h2, h3⟩

set_option maxHeartbeats 1600000 in
theorem toEntry_own (e : Ent) (fv : Value) (w : World) (hv : FldsAt w fv e.fs) (hn : e.fs.length ≤ 1048576) :
    Calls Tryz.prog 52 #[.agg #[.string e.name, fv]] w fun x w' => ∃ fb : Nat, w.heap.size + 3 ≤ fb ∧ x = .returned (.agg #[.string e.name, .slice (some ⟨fb, 0, none⟩) e.fs.length e.fs.length]) ∧ HeldL w' fb e.fs.length 3 (e.fs.map fldRow) ∧ Below w.heap.size w w' := by
  have HV : Hid (FldsAt w fv e.fs) := hv
  obtain ⟨a, cap, rfl, -, -, -⟩ := hv
  obtain ⟨nm, fs⟩ := e
  dsimp only at *
  have HO0 : Hid (OwnAt w (((w.alloc (.cells #[.string nm, .slice a fs.length cap] 90)).alloc (.cells #[.string ⟨#[]⟩, .slice none 0 0] 60)).alloc (.cells #[.string nm, .slice none 0 0] 60)) [[.string nm, .slice a fs.length cap], [.string ⟨#[]⟩, .slice none 0 0], [.string nm, .slice none 0 0]]) :=
    (((OwnAt.start w).push rfl _ _).push (by simp) _ _).push (by simp) _ _
  go_enter Tryz.func52, Tryz.ntmps52
  go_wp2_with fail
  refine (toFields_any _ fs _ (HV.out.keep HO0.out.below) hn).mono ?_
  rintro x w1 ⟨rfl, hf1⟩
  have HO1 : Hid (OwnAt w w1 _) := HO0.out.call hf1.below
  simp only [World.size_alloc] at hf1 ⊢
  have HH : Hid (HeldL w1 (w.heap.size + 1 + 1 + 1) fs.length 3 (fs.map fldRow)) := hf1.held
  clear hf1 HO0
  have q0 : w1.cell? ⟨w.heap.size + 1, 0, none⟩ = some (.string ⟨#[]⟩) := (HO1.out.has 1 _ rfl 0 _ rfl).1
  have q1 : w1.cell? ⟨w.heap.size + 1, 1, none⟩ = some (.slice none 0 0) := (HO1.out.has 1 _ rfl 1 _ rfl).1
  have p0 : w1.cell? ⟨w.heap.size + 1 + 1, 0, none⟩ = some (.string nm) := (HO1.out.has 2 _ rfl 0 _ rfl).1
  have p1 : w1.cell? ⟨w.heap.size + 1 + 1, 1, none⟩ = some (.slice none 0 0) := (HO1.out.has 2 _ rfl 1 _ rfl).1
  have g0 : w1.frozen? ⟨w.heap.size + 1, 0, none⟩ = false := (HO1.out.has 1 _ rfl 0 _ rfl).2
  have g1 : w1.frozen? ⟨w.heap.size + 1, 1, none⟩ = false := (HO1.out.has 1 _ rfl 1 _ rfl).2
  have g2 : w1.frozen? ⟨w.heap.size + 1 + 1, 1, none⟩ = false := (HO1.out.has 2 _ rfl 1 _ rfl).2
  go_wp2
  refine bodyPost_ret (v := .agg #[.string nm, .slice (some ⟨w.heap.size + 1 + 1 + 1, 0, none⟩) fs.length fs.length]) (by simp [results, Tryz.results52, go_sem, *]) rfl ⟨w.heap.size + 1 + 1 + 1, by omega, rfl, ((HH.out.other (by omega) _).other (by omega) _).other (by omega) _, ?_⟩
  exact below_set (below_set (below_set HO1.out.below _ _ (by omega) _) _ _ (by omega) _) _ _ (by omega) _

/-- The first k entries are copied. -/
structure EntsTo (w wr : World) (B : Nat) (l : List Ent) (k : Nat) (rows : List (List Value)) : Prop where
  fill : FilledL w wr B l.length 2 rows
  len : rows.length = k
  has : ∀ (i : Nat) (e : Ent), i < k → l[i]? = some e → ∃ fb : Nat, fb ≠ B ∧ w.heap.size ≤ fb ∧ rows[i]? = some [.string e.name, .slice (some ⟨fb, 0, none⟩) e.fs.length e.fs.length] ∧ HeldL wr fb e.fs.length 3 (e.fs.map fldRow)
theorem setCells_held {wr : World} {B o : Nat} {vs : List Value} {b n c : Nat} {rows : List (List Value)} (h : HeldL wr b n c rows) (hb : B ≠ b) : HeldL (wr.setCells B o vs) b n c rows := by
  induction vs generalizing wr o with
  | nil => exact h
  | cons v vs ih => exact ih (h.other hb v)
theorem EntsTo.next {w wr w1 : World} {B k fb : Nat} {l : List Ent} {rows : List (List Value)} {e : Ent} (h : EntsTo w wr B l k rows) (hk : k < l.length) (he : l[k]? = some e) (hb : Below wr.heap.size wr w1) (hfb : wr.heap.size ≤ fb) (hh : HeldL w1 fb e.fs.length 3 (e.fs.map fldRow)) :
    EntsTo w (w1.setCells B (k * 2) [.string e.name, .slice (some ⟨fb, 0, none⟩) e.fs.length e.fs.length]) B l (k + 1) (rows ++ [[.string e.name, .slice (some ⟨fb, 0, none⟩) e.fs.length e.fs.length]]) := by
  have hne : B ≠ fb := by have := h.fill.big; omega
  have hst := (h.fill.call hb).store (r := [.string e.name, .slice (some ⟨fb, 0, none⟩) e.fs.length e.fs.length]) (by rw [h.len]; exact hk) rfl
  rw [h.len] at hst
  refine ⟨hst, by simp [h.len], fun i e' hi he' => ?_⟩
  by_cases ei : i = k
  · subst ei
    rw [he] at he'; cases he'
    refine ⟨fb, Ne.symm hne, by have := h.fill.below.size; omega, ?_, setCells_held hh hne⟩
    rw [List.getElem?_append_right (by rw [h.len]; exact Nat.le_refl _), h.len]; simp
  · obtain ⟨fb', h0, h1, h2, h3⟩ := h.has i e' (by omega) he'
    refine ⟨fb', h0, h1, ?_, setCells_held (h3.keep hb) (Ne.symm h0)⟩
    rw [List.getElem?_append_left (by rw [h.len]; omega)]; exact h2
theorem EntsTo.done {w wr : World} {B lo : Nat} {l : List Ent} {rows : List (List Value)} (h : EntsTo w wr B l l.length rows) (hlo : lo ≤ w.heap.size) : EntsOwn lo wr (.slice (some ⟨B, 0, none⟩) l.length l.length) l :=
  ⟨B, rows, by have := h.fill.old; omega, rfl, h.fill.held, h.len, fun i e he => by
    obtain ⟨fb, h0, h1, h2, h3⟩ := h.has i e (List.getElem?_eq_some_iff.1 he).1 he
    exact ⟨fb, h0, by omega, h2, h3⟩⟩

set_option maxHeartbeats 1600000 in
theorem toEntries_own (v : Value) (l : List Ent) (w : World) (hv : EntsAt w v l) (hn : l.length ≤ 1048576) (hf : ∀ e ∈ l, e.fs.length ≤ 1048576) :
    Calls Tryz.prog 22 #[v] w fun x w' => ∃ u, x = .returned u ∧ EntsOwn w.heap.size w' u l ∧ Below w.heap.size w w' := by
  obtain ⟨a, cap, rfl, hlc, hcm, hc⟩ := hv
  unfold maxLen at hcm
  have HC : Hid (∀ i f, l[i]? = some f → ∃ b off, a = some ⟨b, off, none⟩ ∧ EntAt w b (off + i * 2) f) := hc
  have HF : Hid (∀ e ∈ l, e.fs.length ≤ 1048576) := hf
  clear hc hf
  obtain ⟨i0, hi, hz0, hz1, hz2⟩ := info_parts infoEntry
  have hmk : ∀ w : World, (Instr.makeSlice 35 (.int .i64 (l.length : Int)) (.int .i64 (l.length : Int))).run Tryz.prog w = .ok (.slice (some ⟨w.heap.size, 0, none⟩) l.length l.length) (w.alloc (.cells (madeCells (Value.agg #[.string ByteArray.empty, .slice none 0 0]).cells (l.length * 2)) 60)) := fun w => by
    have h := run_make (P := Tryz.prog) w 35 60 i0 _ Tryz.underlying35 hi hz0 .i64 .i64 l.length l.length (by omega) (by omega) (by rw [hz2]; omega) (by omega)
    rw [hz1] at h
    simpa using h
  have HM : Hid ((madeCells (Value.agg #[.string ByteArray.empty, .slice none 0 0]).cells (l.length * 2)).size = l.length * 2) := size_madeCells _ _
  generalize madeCells (Value.agg #[.string ByteArray.empty, .slice none 0 0]).cells (l.length * 2) = C at hmk HM
  clear hi hz0 hz1 hz2
  go_enter Tryz.func22, Tryz.ntmps22
  go_wp2
  go_loopw [4] (fun i wr => ∃ (k : Nat) (rows : List (List Value)), k ≤ l.length ∧ i = .int .i64 k ∧ EntsTo w wr w.heap.size l k rows) (fun i _ => l.length - (intOf i).toNat)
  case atStart => exact ⟨0, [], Nat.zero_le _, rfl, FilledL.start w C _ _ _ HM.out, rfl, fun i e hi => absurd hi (Nat.not_lt_zero _)⟩
  case round =>
    obtain ⟨k, rows, hk, rfl, hf⟩ := hrel
    by_cases hlt : k < l.length
    · obtain ⟨b, off, rfl, hc⟩ := HC.out k _ (eat_get hlt)
      obtain ⟨fv, d0, d1, hfl⟩ := (hc.keep hf.fill.below)
      have HFL : Hid (FldsAt wr fv (eat l k).fs) := hfl
      have HK : Hid (l[k]? = some (eat l k)) := eat_get hlt
      have HFK : Hid ((eat l k).fs.length ≤ 1048576) := HF.out _ (List.mem_of_getElem? (eat_get hlt))
      obtain ⟨fa, fc, rfl, -, -, -⟩ := hfl
      clear hc HC
      generalize eat l k = t at *
      have hk0 : (0 : Int) ≤ (k : Int) := by omega
      have hk1 : (k : Int) < (l.length : Int) := by omega
      go_wp2_with fail
      refine (toEntry_own t _ _ HFL.out HFK.out).mono ?_
      rintro x w1 ⟨fb, hfb, rfl, hh, hb1⟩
      have hf1 := hf.fill.call hb1
      obtain ⟨⟨v0, e0⟩, f0⟩ := hf1.free hlt (j := 0) (by omega)
      obtain ⟨⟨v1, e1⟩, f1⟩ := hf1.free hlt (j := 1) (by omega)
      simp only [Nat.add_zero] at e0 f0
      have hnext := hf.next hlt HK.out hb1 (by omega) hh
      have HN : Hid (EntsTo w (w1.setCells w.heap.size (k * 2) [.string t.name, .slice (some ⟨fb, 0, none⟩) t.fs.length t.fs.length]) w.heap.size l (k + 1) _) := hnext
      clear hf1 hnext hh hb1
      go_wp2
      exact ⟨⟨k + 1, _, by omega, by go_num, HN.out⟩, by simp [intOf]; omega⟩
    · go_wp2
      go_ret
      obtain rfl : k = l.length := by omega
      exact ⟨_, rfl, hf.done (Nat.le_refl _), hf.fill.below⟩

set_option maxHeartbeats 800000 in
theorem eqEntries_any (v v' : Value) (l : List Ent) (w : World) (hv : EntsAt w v l) (hv' : EntsAt w v' l) :
    Calls Tryz.prog 29 #[v, v'] w fun e w' => e = .returned (.bool true) ∧ Below w.heap.size w w' := by
  obtain ⟨a, cap, rfl, hlc, hcm, hc⟩ := hv
  obtain ⟨a', cap', rfl, hlc', hcm', hc'⟩ := hv'
  unfold maxLen at hcm hcm'
  have HC : Hid (∀ i f, l[i]? = some f → ∃ b off, a = some ⟨b, off, none⟩ ∧ EntAt w b (off + i * 2) f) := hc
  have HC' : Hid (∀ i f, l[i]? = some f → ∃ b off, a' = some ⟨b, off, none⟩ ∧ EntAt w b (off + i * 2) f) := hc'
  clear hc hc'
  go_enter Tryz.func29, Tryz.ntmps29
  go_wp2
  go_loopw [5] (fun i w' => ∃ k : Nat, k ≤ l.length ∧ i = .int .i64 k ∧ Below w.heap.size w w') (fun i _ => l.length - (intOf i).toNat)
  case atStart => exact ⟨0, Nat.zero_le _, rfl, Below.refl _ _⟩
  case round =>
    obtain ⟨k, hk, rfl, hb⟩ := hrel
    by_cases hlt : k < l.length
    · obtain ⟨b, off, rfl, hc⟩ := HC.out k _ (eat_get hlt)
      obtain ⟨b', off', rfl, hc'⟩ := HC'.out k _ (eat_get hlt)
      obtain ⟨fv, d0, d1, hfl⟩ := hc.keep hb
      obtain ⟨fv', d0', d1', hfl'⟩ := hc'.keep hb
      have HFL : Hid (FldsAt wr fv (eat l k).fs ∧ FldsAt wr fv' (eat l k).fs) := ⟨hfl, hfl'⟩
      obtain ⟨fa, fc, rfl, -, -, -⟩ := hfl
      obtain ⟨fa', fc', rfl, -, -, -⟩ := hfl'
      clear hc hc' HC HC'
      generalize eat l k = t at *
      have hk0 : (0 : Int) ≤ (k : Int) := by omega
      have hk1 : (k : Int) < (l.length : Int) := by omega
      go_wp2
      go_region_held3 (fun w' => (w'.cell? ⟨b, off + k * 2, none⟩ = some (.string t.name) ∧ w'.cell? ⟨b, off + k * 2 + 1, none⟩ = some (.slice fa t.fs.length fc) ∧
          w'.cell? ⟨b', off' + k * 2, none⟩ = some (.string t.name) ∧ w'.cell? ⟨b', off' + k * 2 + 1, none⟩ = some (.slice fa' t.fs.length fc')) ∧ Below wr.heap.size wr w')
        (first | exact ⟨⟨by simpa using d0, by simpa using d1, by simpa using d0', by simpa using d1'⟩, (Below.refl _ _).drew⟩ | (obtain ⟨⟨s0, s1, s2, s3⟩, s4⟩ := ‹_ ∧ Below wr.heap.size wr _›; exact ⟨⟨cell_keep hb1 (Nat.le_refl _) s0, cell_keep hb1 (Nat.le_refl _) s1, cell_keep hb1 (Nat.le_refl _) s2, cell_keep hb1 (Nat.le_refl _) s3⟩, below_step s4 hb1⟩))
        (first | (go_at_call 66; refine (eqEntry_any t _ _ _ (HFL.out.1.keep (‹_ ∧ Below wr.heap.size wr _›).2) (HFL.out.2.keep (‹_ ∧ Below wr.heap.size wr _›).2)).mono ?_; rintro e w1 ⟨rfl, hb1⟩))
      go_wp2
      exact ⟨⟨k + 1, by omega, by go_num, below_step hb (‹_ ∧ Below wr.heap.size wr w1›).2⟩, by simp [intOf]; omega⟩
    · go_wp2
      go_ret
      exact ⟨rfl, hb⟩
end Go.Proofs.YtfjblenkcfdbiaaGreatDoor
