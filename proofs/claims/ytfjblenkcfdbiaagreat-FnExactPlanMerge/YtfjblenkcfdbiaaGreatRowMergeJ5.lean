/-
  For the proof of merge_holds: part 5 (Chg, BookB, Book1, Book2, Later, SpecKinds).
-/
import Derived.Deep.MidRow
import Derived.Deep.RegionHeld3
import Derived.Deep.QuietTactic
import Derived.BigQuiet
import Derived.Test.YtfjblenkcfdbiaaGreatRowMergeJ4
/-
  A change: its number, its size, its copy.
-/
namespace Go.Proofs.YtfjblenkcfdbiaaGreat
open Go.RowKit

/-- A change. -/
structure Chg where
  f : ByteArray
  what : Int
  num : Int
  v : ByteArray

set_option maxHeartbeats 400000 in
theorem numberOk_any (n : Int) (w : World) :
    Calls Tryz.prog 69 #[.int .i64 n] w fun e w' => e = .returned (.bool (inB n 1 1000000)) ∧ w' = w := by
  by_cases h1 : 1 ≤ n
  · by_cases h2 : n ≤ 1000000
    · have e : inB n 1 1000000 = true := by simp [inB, h1, h2]
      rw [e]; clear e
      go_enter Tryz.func69, Tryz.ntmps69
      go_wp2
      go_ret
      exact ⟨rfl, rfl⟩
    · have e : inB n 1 1000000 = false := by simp [inB, h1, h2]
      rw [e]; clear e
      go_enter Tryz.func69, Tryz.ntmps69
      go_wp2
      go_ret
      exact ⟨rfl, rfl⟩
  · have e : inB n 1 1000000 = false := by simp [inB, h1]
    rw [e]; clear e
    go_enter Tryz.func69, Tryz.ntmps69
    go_wp2
    go_ret
    exact ⟨rfl, rfl⟩

set_option maxHeartbeats 400000 in
theorem szChange_any (c : Chg) (left : Int) (w : World) (hf : c.f.size ≤ maxLen) (hv : c.v.size ≤ maxLen) (hl : 0 ≤ left) (hl' : left ≤ 1048576) :
    Calls Tryz.prog 7 #[.agg #[.string c.f, .int .i64 c.what, .int .i64 c.num, .string c.v], .int .i64 left] w fun e w' => e = .returned (.int .i64 (szR (c.f.size + c.v.size) left)) ∧ Below w.heap.size w w' := by
  unfold maxLen at hf hv
  by_cases h : left - (c.f.size : Int) < 0
  · rw [szR_neg (by omega)]
    go_enter Tryz.func7, Tryz.ntmps7
    go_wp2
    go_ret
    exact ⟨rfl, (Below.refl _ _).alloc (Nat.le_refl _) _⟩
  · by_cases h' : left - (c.f.size : Int) - (c.v.size : Int) < 0
    · rw [szR_neg (by omega)]
      go_enter Tryz.func7, Tryz.ntmps7
      go_wp2
      go_ret
      exact ⟨rfl, (Below.refl _ _).alloc (Nat.le_refl _) _⟩
    · rw [szR_pos (by omega)]
      go_enter Tryz.func7, Tryz.ntmps7
      go_wp2
      go_ret
      exact ⟨ret_int (by omega), (Below.refl _ _).alloc (Nat.le_refl _) _⟩

set_option maxHeartbeats 400000 in
theorem toChange_any (c : Chg) (w : World) :
    Calls Tryz.prog 10 #[.agg #[.string c.f, .int .i64 c.what, .int .i64 c.num, .string c.v]] w fun e w' => e = .returned (.agg #[.string c.f, .int .i64 c.what, .int .i64 c.num, .string c.v]) ∧ Below w.heap.size w w' := by
  go_enter Tryz.func10, Tryz.ntmps10
  go_wp2
  exact bodyPost_ret (v := .agg #[.string c.f, .int .i64 c.what, .int .i64 c.num, .string c.v]) (by simp [results, Tryz.results10, go_sem]) rfl ⟨rfl, (((Below.refl _ _).alloc (Nat.le_refl _) _).alloc (by simp) _).alloc (by simp; omega) _⟩
end Go.Proofs.YtfjblenkcfdbiaaGreat

/-
  Books in memory: fields, entries; their sizes.
-/
namespace Go.Proofs.YtfjblenkcfdbiaaGreat
open Go.RowKit

/-- What is said of one thing. -/
structure Fld where
  what : Int
  num : Int
  v : ByteArray
/-- A flight of a book. -/
structure Ent where
  name : ByteArray
  fs : List Fld

def fldV (f : Fld) : Value := .agg #[.int .i64 f.what, .int .i64 f.num, .string f.v]
/-- A field's cells. -/
def FldAt (w : World) (b o : Nat) (f : Fld) : Prop := w.cell? ⟨b, o, none⟩ = some (.int .i64 f.what) ∧ w.cell? ⟨b, o + 1, none⟩ = some (.int .i64 f.num) ∧ w.cell? ⟨b, o + 2, none⟩ = some (.string f.v)
/-- v is a slice of these, in w. -/
def FldsAt (w : World) (v : Value) (l : List Fld) : Prop :=
  ∃ a cap, v = .slice a l.length cap ∧ l.length ≤ cap ∧ cap ≤ maxLen ∧ ∀ i f, l[i]? = some f → ∃ b off, a = some ⟨b, off, none⟩ ∧ FldAt w b (off + i * 3) f
/-- An entry's cells, and its fields. -/
def EntAt (w : World) (b o : Nat) (e : Ent) : Prop := ∃ fv, w.cell? ⟨b, o, none⟩ = some (.string e.name) ∧ w.cell? ⟨b, o + 1, none⟩ = some fv ∧ FldsAt w fv e.fs
def EntsAt (w : World) (v : Value) (l : List Ent) : Prop :=
  ∃ a cap, v = .slice a l.length cap ∧ l.length ≤ cap ∧ cap ≤ maxLen ∧ ∀ i e, l[i]? = some e → ∃ b off, a = some ⟨b, off, none⟩ ∧ EntAt w b (off + i * 2) e

theorem FldAt.keep {w w' : World} {b o B : Nat} {f : Fld} (h : FldAt w b o f) (hb : Below B w w') (hB : w.heap.size ≤ B) : FldAt w' b o f :=
  ⟨cell_keep hb hB h.1, cell_keep hb hB h.2.1, cell_keep hb hB h.2.2⟩
theorem FldsAt.keep {w w' : World} {v : Value} {l : List Fld} (h : FldsAt w v l) (hb : Below w.heap.size w w') : FldsAt w' v l := by
  obtain ⟨a, cap, rfl, h1, h2, h3⟩ := h
  refine ⟨a, cap, rfl, h1, h2, fun i t ht => ?_⟩
  obtain ⟨b, off, ha, hc⟩ := h3 i t ht
  exact ⟨b, off, ha, hc.keep hb (Nat.le_refl _)⟩
theorem EntAt.keep {w w' : World} {b o : Nat} {e : Ent} (h : EntAt w b o e) (hb : Below w.heap.size w w') : EntAt w' b o e := by
  obtain ⟨fv, h0, h1, h2⟩ := h
  exact ⟨fv, cell_keep hb (Nat.le_refl _) h0, cell_keep hb (Nat.le_refl _) h1, h2.keep hb⟩
theorem EntsAt.keep {w w' : World} {v : Value} {l : List Ent} (h : EntsAt w v l) (hb : Below w.heap.size w w') : EntsAt w' v l := by
  obtain ⟨a, cap, rfl, h1, h2, h3⟩ := h
  refine ⟨a, cap, rfl, h1, h2, fun i t ht => ?_⟩
  obtain ⟨b, off, ha, hc⟩ := h3 i t ht
  exact ⟨b, off, ha, hc.keep hb⟩

def fat (l : List Fld) (i : Nat) : Fld := l.getD i ⟨0, 0, ⟨#[]⟩⟩
theorem fat_get {l : List Fld} {i : Nat} (h : i < l.length) : l[i]? = some (fat l i) := by simp [fat, h]
def eat (l : List Ent) (i : Nat) : Ent := l.getD i ⟨⟨#[]⟩, []⟩
theorem eat_get {l : List Ent} {i : Nat} (h : i < l.length) : l[i]? = some (eat l i) := by simp [eat, h]

def FNames (l : List Fld) : Prop := ∀ f ∈ l, f.v.size ≤ maxLen
def ENames (l : List Ent) : Prop := ∀ e ∈ l, e.name.size ≤ maxLen ∧ FNames e.fs

/-- Sums over the first of a list. -/
def sumN {α : Type} (g : α → Nat) : List α → Nat
  | [] => 0
  | t :: r => g t + sumN g r
theorem sumN_append {α : Type} (g : α → Nat) (l r : List α) : sumN g (l ++ r) = sumN g l + sumN g r := by
  induction l with
  | nil => simp [sumN]
  | cons a l ih => simp [sumN, ih]; omega
theorem sumN_take_succ {α : Type} (g : α → Nat) (l : List α) (k : Nat) (x : α) (h : l[k]? = some x) : sumN g (l.take (k + 1)) = sumN g (l.take k) + g x := by
  obtain ⟨hk, rfl⟩ := List.getElem?_eq_some_iff.1 h
  rw [List.take_succ_eq_append_getElem hk, sumN_append]; simp [sumN]
theorem sumN_take_le {α : Type} (g : α → Nat) (l : List α) (k : Nat) : sumN g (l.take k) ≤ sumN g l := by
  conv => rhs; rw [← List.take_append_drop k l, sumN_append]
  omega
theorem sumN_mem {α : Type} (g : α → Nat) (l : List α) (x : α) (h : x ∈ l) : g x ≤ sumN g l := by
  induction l with
  | nil => cases h
  | cons a l ih =>
    rcases List.mem_cons.1 h with rfl | h
    · simp [sumN]
    · have := ih h; simp [sumN]; omega
def szFlds (l : List Fld) : Nat := l.length + sumN (fun f => f.v.size) l
def szEnt (e : Ent) : Nat := e.name.size + szFlds e.fs
def szEnts (l : List Ent) : Nat := l.length + sumN szEnt l
end Go.Proofs.YtfjblenkcfdbiaaGreat

/-
  The law's own functions over fields: sizes, copies, comparisons.
-/
namespace Go.Proofs.YtfjblenkcfdbiaaGreat
open Go.RowKit

set_option maxHeartbeats 400000 in
theorem szField_any (f : Fld) (left : Int) (w : World) (hs : f.v.size ≤ maxLen) (hl : 0 ≤ left) (hl' : left ≤ 1048576) :
    Calls Tryz.prog 112 #[.agg #[.int .i64 f.what, .int .i64 f.num, .string f.v], .int .i64 left] w fun e w' => e = .returned (.int .i64 (szR f.v.size left)) ∧ Below w.heap.size w w' := by
  unfold maxLen at hs
  by_cases h : left - (f.v.size : Int) < 0
  · rw [szR_neg (by omega)]
    go_enter Tryz.func112, Tryz.ntmps112
    go_wp2
    go_ret
    exact ⟨rfl, (Below.refl _ _).alloc (Nat.le_refl _) _⟩
  · rw [szR_pos (by omega)]
    go_enter Tryz.func112, Tryz.ntmps112
    go_wp2
    go_ret
    exact ⟨rfl, (Below.refl _ _).alloc (Nat.le_refl _) _⟩

set_option maxHeartbeats 400000 in
theorem toField_any (f : Fld) (w : World) :
    Calls Tryz.prog 114 #[.agg #[.int .i64 f.what, .int .i64 f.num, .string f.v]] w fun e w' => e = .returned (.agg #[.int .i64 f.what, .int .i64 f.num, .string f.v]) ∧ Below w.heap.size w w' := by
  go_enter Tryz.func114, Tryz.ntmps114
  go_wp2
  exact bodyPost_ret (v := .agg #[.int .i64 f.what, .int .i64 f.num, .string f.v]) (by simp [results, Tryz.results114, go_sem]) rfl ⟨rfl, (((Below.refl _ _).alloc (Nat.le_refl _) _).alloc (by simp) _).alloc (by simp; omega) _⟩

set_option maxHeartbeats 400000 in
theorem eqField_any (f : Fld) (w : World) :
    Calls Tryz.prog 123 #[.agg #[.int .i64 f.what, .int .i64 f.num, .string f.v], .agg #[.int .i64 f.what, .int .i64 f.num, .string f.v]] w fun e w' => e = .returned (.bool true) ∧ Below w.heap.size w w' := by
  go_enter Tryz.func123, Tryz.ntmps123
  go_wp2
  all_goals go_ret
  all_goals exact ⟨rfl, ((Below.refl _ _).alloc (Nat.le_refl _) _).alloc (by simp) _⟩

set_option maxHeartbeats 800000 in
theorem szFields_any (v : Value) (l : List Fld) (left : Int) (w : World) (hv : FldsAt w v l) (hs : FNames l) (hl : 0 ≤ left) (hl' : left ≤ 1048576) :
    Calls Tryz.prog 91 #[v, .int .i64 left] w fun e w' => e = .returned (.int .i64 (szR (szFlds l) left)) ∧ Below w.heap.size w w' := by
  obtain ⟨a, cap, rfl, hlc, hcm, hc⟩ := hv
  unfold maxLen at hcm
  by_cases hn : left - (l.length : Int) < 0
  · rw [szR_neg (by unfold szFlds; omega)]
    clear hc
    go_enter Tryz.func91, Tryz.ntmps91
    go_wp2
    go_ret
    exact ⟨rfl, Below.refl _ _⟩
  · have HC : Hid (∀ i f, l[i]? = some f → ∃ b off, a = some ⟨b, off, none⟩ ∧ FldAt w b (off + i * 3) f) := hc
    have HS : Hid (FNames l) := hs
    clear hc hs
    have HT' : Hid (∀ k, sumN (fun f : Fld => f.v.size) (l.take k) ≤ sumN (fun f => f.v.size) l) := fun k => sumN_take_le _ l k
    go_enter Tryz.func91, Tryz.ntmps91
    go_wp2
    go_loopw [1, 5] (fun lf i w' => ∃ k s : Nat, k ≤ l.length ∧ i = .int .i64 k ∧ Hid (sumN (fun f : Fld => f.v.size) (l.take k) = s) ∧ lf = .int .i64 (left - l.length - s) ∧ 0 ≤ left - l.length - s ∧ Below w.heap.size w w') (fun _ i _ => l.length - (intOf i).toNat)
    case atStart => exact ⟨0, 0, Nat.zero_le _, rfl, rfl, by simp, by simp; omega, Below.refl _ _⟩
    case round =>
      obtain ⟨k, sk, hk, rfl, HQ, rfl, hge, hb⟩ := hrel
      by_cases hlt : k < l.length
      · obtain ⟨b, off, rfl, hc⟩ := HC.out k _ (fat_get hlt)
        obtain ⟨d0, d1, d2⟩ := hc.keep hb (Nat.le_refl _)
        have HT : Hid (sumN (fun f : Fld => f.v.size) (l.take (k + 1)) = sk + (fat l k).v.size) := by
          show _ = _
          rw [sumN_take_succ _ l k _ (fat_get hlt), HQ.out]
        have hsk : (fat l k).v.size ≤ maxLen := HS.out _ (List.mem_of_getElem? (fat_get hlt))
        clear hc HC HS
        generalize fat l k = t at *
        go_wp2_with fail
        refine (szField_any t _ _ hsk (by omega) (by omega)).mono ?_
        rintro e w1 ⟨rfl, hb1⟩
        by_cases hneg : left - (l.length : Int) - (sk : Int) - (t.v.size : Int) < 0
        · rw [szR_neg (by omega)]
          go_wp2
          go_ret
          refine ⟨ret_int (szR_neg ?_).symm, below_step hb hb1⟩
          have h1 := HT.out; have h2 := HT'.out (k + 1)
          unfold szFlds; omega
        · rw [szR_pos (by omega)]
          have hge1 : 0 ≤ left - (l.length : Int) - (sk : Int) - (t.v.size : Int) := by omega
          go_wp2
          go_roundw
          case rel => exact ⟨k + 1, sk + t.v.size, by omega, by go_num, HT, by congr 1; omega, by omega, below_step hb hb1⟩
          case measure => simp [intOf]; omega
      · go_wp2
        go_ret
        refine ⟨ret_int ?_, hb⟩
        have h1 := HQ.out
        rw [List.take_of_length_le (by omega)] at h1
        rw [szR_pos (by unfold szFlds; omega)]
        unfold szFlds
        omega

set_option maxHeartbeats 800000 in
theorem eqFields_any (v v' : Value) (l : List Fld) (w : World) (hv : FldsAt w v l) (hv' : FldsAt w v' l) :
    Calls Tryz.prog 109 #[v, v'] w fun e w' => e = .returned (.bool true) ∧ Below w.heap.size w w' := by
  obtain ⟨a, cap, rfl, hlc, hcm, hc⟩ := hv
  obtain ⟨a', cap', rfl, hlc', hcm', hc'⟩ := hv'
  unfold maxLen at hcm hcm'
  have HC : Hid (∀ i f, l[i]? = some f → ∃ b off, a = some ⟨b, off, none⟩ ∧ FldAt w b (off + i * 3) f) := hc
  have HC' : Hid (∀ i f, l[i]? = some f → ∃ b off, a' = some ⟨b, off, none⟩ ∧ FldAt w b (off + i * 3) f) := hc'
  clear hc hc'
  go_enter Tryz.func109, Tryz.ntmps109
  go_wp2
  go_loopw [5] (fun i w' => ∃ k : Nat, k ≤ l.length ∧ i = .int .i64 k ∧ Below w.heap.size w w') (fun i _ => l.length - (intOf i).toNat)
  case atStart => exact ⟨0, Nat.zero_le _, rfl, Below.refl _ _⟩
  case round =>
    obtain ⟨k, hk, rfl, hb⟩ := hrel
    by_cases hlt : k < l.length
    · obtain ⟨b, off, rfl, hc⟩ := HC.out k _ (fat_get hlt)
      obtain ⟨b', off', rfl, hc'⟩ := HC'.out k _ (fat_get hlt)
      obtain ⟨d0, d1, d2⟩ := hc.keep hb (Nat.le_refl _)
      obtain ⟨d0', d1', d2'⟩ := hc'.keep hb (Nat.le_refl _)
      clear hc hc' HC HC'
      generalize fat l k = t at *
      have hk0 : (0 : Int) ≤ (k : Int) := by omega
      have hk1 : (k : Int) < (l.length : Int) := by omega
      go_wp2
      go_region_held3 (fun w' => w'.cell? ⟨b, off + k * 3, none⟩ = some (.int .i64 t.what) ∧ w'.cell? ⟨b, off + k * 3 + 1, none⟩ = some (.int .i64 t.num) ∧ w'.cell? ⟨b, off + k * 3 + 2, none⟩ = some (.string t.v) ∧
          w'.cell? ⟨b', off' + k * 3, none⟩ = some (.int .i64 t.what) ∧ w'.cell? ⟨b', off' + k * 3 + 1, none⟩ = some (.int .i64 t.num) ∧ w'.cell? ⟨b', off' + k * 3 + 2, none⟩ = some (.string t.v))
        (first | (simp [*, go_sem]; done) | (refine ⟨cell_keep hb1 (by simp) ?_, cell_keep hb1 (by simp) ?_, cell_keep hb1 (by simp) ?_, cell_keep hb1 (by simp) ?_, cell_keep hb1 (by simp) ?_, cell_keep hb1 (by simp) ?_⟩ <;> simp [*, go_sem]))
        (first | (go_at_call 123; refine (eqField_any t _).mono ?_; rintro e w1 ⟨rfl, hb1⟩))
      go_wp2
      exact ⟨⟨k + 1, by omega, by go_num, below_step hb.drew hb1⟩, by simp [intOf]; omega⟩
    · go_wp2
      go_ret
      exact ⟨rfl, hb⟩
end Go.Proofs.YtfjblenkcfdbiaaGreat

/-
  Copies of lists of fields; entries: sizes, copies, comparisons.
-/
namespace Go.Proofs.YtfjblenkcfdbiaaGreat
open Go.RowKit

def fldRow (f : Fld) : List Value := [.int .i64 f.what, .int .i64 f.num, .string f.v]
theorem FilledL.flds {w wr : World} {B n : Nat} {l : List Fld} (h : FilledL w wr B n 3 (l.map fldRow)) (hn : l.length = n) (hm : n ≤ maxLen) : FldsAt wr (.slice (some ⟨B, 0, none⟩) n n) l :=
  ⟨some ⟨B, 0, none⟩, n, by rw [hn], by omega, hm, fun i f hf => ⟨B, 0, rfl, by
    have hr : (l.map fldRow)[i]? = some (fldRow f) := by rw [List.getElem?_map, hf]; rfl
    refine ⟨?_, ?_, ?_⟩
    · simpa using h.cell hr (j := 0) (v := .int .i64 f.what) rfl
    · simpa using h.cell hr (j := 1) (v := .int .i64 f.num) rfl
    · simpa using h.cell hr (j := 2) (v := .string f.v) rfl⟩⟩

theorem infoField : (Tryz.prog.info? 62).map (fun i => (i.zero, i.size, i.bytes)) = some (some (.agg #[.int .i64 0, .int .i64 0, .string ByteArray.empty]), 3, 32) := by kernel_rfl
theorem infoEntry : (Tryz.prog.info? 73).map (fun i => (i.zero, i.size, i.bytes)) = some (some (.agg #[.string ByteArray.empty, .slice none 0 0]), 2, 40) := by kernel_rfl

set_option maxHeartbeats 800000 in
theorem toFields_any (v : Value) (l : List Fld) (w : World) (hv : FldsAt w v l) (hn : l.length ≤ 1048576) :
    Calls Tryz.prog 101 #[v] w fun e w' => e = .returned (.slice (some ⟨w.heap.size, 0, none⟩) l.length l.length) ∧ FilledL w w' w.heap.size l.length 3 (l.map fldRow) := by
  obtain ⟨a, cap, rfl, hlc, hcm, hc⟩ := hv
  unfold maxLen at hcm
  have HC : Hid (∀ i f, l[i]? = some f → ∃ b off, a = some ⟨b, off, none⟩ ∧ FldAt w b (off + i * 3) f) := hc
  clear hc
  obtain ⟨i0, hi, hz0, hz1, hz2⟩ := info_parts infoField
  have hmk : ∀ w : World, (Instr.makeSlice 71 (.int .i64 (l.length : Int)) (.int .i64 (l.length : Int))).run Tryz.prog w = .ok (.slice (some ⟨w.heap.size, 0, none⟩) l.length l.length) (w.alloc (.cells (madeCells (Value.agg #[.int .i64 0, .int .i64 0, .string ByteArray.empty]).cells (l.length * 3)) 62)) := fun w => by
    have h := run_make (P := Tryz.prog) w 71 62 i0 _ Tryz.underlying71 hi hz0 .i64 .i64 l.length l.length (by omega) (by omega) (by rw [hz2]; omega) (by omega)
    rw [hz1] at h
    simpa using h
  have HM : Hid ((madeCells (Value.agg #[.int .i64 0, .int .i64 0, .string ByteArray.empty]).cells (l.length * 3)).size = l.length * 3) := size_madeCells _ _
  generalize madeCells (Value.agg #[.int .i64 0, .int .i64 0, .string ByteArray.empty]).cells (l.length * 3) = C at hmk HM
  clear hi hz0 hz1 hz2
  go_enter Tryz.func101, Tryz.ntmps101
  go_wp2
  go_loopw [4] (fun i wr => ∃ k : Nat, k ≤ l.length ∧ i = .int .i64 k ∧ FilledL w wr w.heap.size l.length 3 ((l.take k).map fldRow)) (fun i _ => l.length - (intOf i).toNat)
  case atStart => exact ⟨0, Nat.zero_le _, rfl, by simpa using FilledL.start w C _ _ _ HM.out⟩
  case round =>
    obtain ⟨k, hk, rfl, hf⟩ := hrel
    by_cases hlt : k < l.length
    · obtain ⟨b, off, rfl, hc⟩ := HC.out k _ (fat_get hlt)
      obtain ⟨d0, d1, d2⟩ := hc.keep hf.below (Nat.le_refl _)
      have HK : Hid (((l.take k).map fldRow).length = k ∧ (l.take (k + 1)).map fldRow = (l.take k).map fldRow ++ [fldRow (fat l k)]) := ⟨by simp; omega, by
        rw [List.take_succ_eq_append_getElem hlt, List.map_append]
        have : l[k] = fat l k := by simp [fat, hlt]
        rw [this]; rfl⟩
      clear hc HC
      generalize fat l k = t at *
      have hk0 : (0 : Int) ≤ (k : Int) := by omega
      have hk1 : (k : Int) < (l.length : Int) := by omega
      go_wp2_with fail
      refine (toField_any t _).mono ?_
      rintro e w1 ⟨rfl, hb1⟩
      have hf1 := hf.call hb1
      obtain ⟨⟨v0, e0⟩, f0⟩ := hf1.free hlt (j := 0) (by omega)
      obtain ⟨⟨v1, e1⟩, f1⟩ := hf1.free hlt (j := 1) (by omega)
      obtain ⟨⟨v2, e2⟩, f2⟩ := hf1.free hlt (j := 2) (by omega)
      simp only [Nat.add_zero] at e0 f0
      go_wp2
      have hst := hf1.store (r := fldRow t) (by rw [HK.out.1]; exact hlt) rfl
      rw [HK.out.1, ← HK.out.2] at hst
      exact ⟨⟨k + 1, by omega, by go_num, hst⟩, by simp [intOf]; omega⟩
    · go_wp2
      go_ret
      obtain rfl : k = l.length := by omega
      rw [List.take_length] at hf
      exact ⟨rfl, hf⟩

set_option maxHeartbeats 800000 in
theorem szEntry_any (e : Ent) (fv : Value) (left : Int) (w : World) (hv : FldsAt w fv e.fs) (hn : e.name.size ≤ maxLen) (hs : FNames e.fs) (hl : 0 ≤ left) (hl' : left ≤ 1048576) :
    Calls Tryz.prog 52 #[.agg #[.string e.name, fv], .int .i64 left] w fun x w' => x = .returned (.int .i64 (szR (szEnt e) left)) ∧ Below w.heap.size w w' := by
  unfold maxLen at hn
  have HV : Hid (FldsAt w fv e.fs) := hv
  have HS : Hid (FNames e.fs) := hs
  obtain ⟨a, cap, rfl, -, -, -⟩ := hv
  have HZ : Hid (szEnt e = e.name.size + szFlds e.fs) := rfl
  clear hs
  by_cases h : left - (e.name.size : Int) < 0
  · rw [szR_neg (by rw [HZ.out]; omega)]
    go_enter Tryz.func52, Tryz.ntmps52
    go_wp2
    go_ret
    exact ⟨rfl, (Below.refl _ _).alloc (Nat.le_refl _) _⟩
  · have hge : 0 ≤ left - (e.name.size : Int) := by omega
    by_cases h2 : (szFlds e.fs : Int) ≤ left - (e.name.size : Int)
    · have H2 : Hid (szR (szFlds e.fs) (left - (e.name.size : Int)) = left - (e.name.size : Int) - szFlds e.fs) := szR_pos h2
      have hge2 : 0 ≤ left - (e.name.size : Int) - szFlds e.fs := by omega
      have HF : Hid (szR (szEnt e) left = left - (e.name.size : Int) - szFlds e.fs) := by
        show _ = _
        rw [szR_pos (by rw [HZ.out]; omega), HZ.out]; omega
      clear h2
      go_enter Tryz.func52, Tryz.ntmps52
      go_wp2_with fail
      refine (szFields_any _ e.fs _ _ (HV.out.keep ((Below.refl _ _).alloc (Nat.le_refl _) _)) HS.out hge (by omega)).mono ?_
      rw [H2.out]
      rintro x w1 ⟨rfl, hb1⟩
      generalize left - (e.name.size : Int) - szFlds e.fs = q at *
      go_wp2
      go_ret
      exact ⟨ret_int HF.out.symm, below_step ((Below.refl _ _).alloc (Nat.le_refl _) _) hb1⟩
    · have H2 : Hid (szR (szFlds e.fs) (left - (e.name.size : Int)) = -1) := szR_neg h2
      have HF : Hid (szR (szEnt e) left = -1) := szR_neg (by rw [HZ.out]; omega)
      clear h2
      go_enter Tryz.func52, Tryz.ntmps52
      go_wp2_with fail
      refine (szFields_any _ e.fs _ _ (HV.out.keep ((Below.refl _ _).alloc (Nat.le_refl _) _)) HS.out hge (by omega)).mono ?_
      rw [H2.out]
      rintro x w1 ⟨rfl, hb1⟩
      go_wp2
      go_ret
      exact ⟨ret_int HF.out.symm, below_step ((Below.refl _ _).alloc (Nat.le_refl _) _) hb1⟩

set_option maxHeartbeats 800000 in
theorem szEntries_any (v : Value) (l : List Ent) (left : Int) (w : World) (hv : EntsAt w v l) (hs : ENames l) (hl : 0 ≤ left) (hl' : left ≤ 1048576) :
    Calls Tryz.prog 23 #[v, .int .i64 left] w fun e w' => e = .returned (.int .i64 (szR (szEnts l) left)) ∧ Below w.heap.size w w' := by
  obtain ⟨a, cap, rfl, hlc, hcm, hc⟩ := hv
  unfold maxLen at hcm
  by_cases hn : left - (l.length : Int) < 0
  · rw [szR_neg (by unfold szEnts; omega)]
    clear hc
    go_enter Tryz.func23, Tryz.ntmps23
    go_wp2
    go_ret
    exact ⟨rfl, Below.refl _ _⟩
  · have HC : Hid (∀ i f, l[i]? = some f → ∃ b off, a = some ⟨b, off, none⟩ ∧ EntAt w b (off + i * 2) f) := hc
    have HS : Hid (ENames l) := hs
    clear hc hs
    have HT' : Hid (∀ k, sumN szEnt (l.take k) ≤ sumN szEnt l) := fun k => sumN_take_le _ l k
    go_enter Tryz.func23, Tryz.ntmps23
    go_wp2
    go_loopw [1, 5] (fun lf i w' => ∃ k s : Nat, k ≤ l.length ∧ i = .int .i64 k ∧ Hid (sumN szEnt (l.take k) = s) ∧ lf = .int .i64 (left - l.length - s) ∧ 0 ≤ left - l.length - s ∧ Below w.heap.size w w') (fun _ i _ => l.length - (intOf i).toNat)
    case atStart => exact ⟨0, 0, Nat.zero_le _, rfl, rfl, by simp, by simp; omega, Below.refl _ _⟩
    case round =>
      obtain ⟨k, sk, hk, rfl, HQ, rfl, hge, hb⟩ := hrel
      by_cases hlt : k < l.length
      · obtain ⟨b, off, rfl, hc⟩ := HC.out k _ (eat_get hlt)
        obtain ⟨fv, d0, d1, hfl⟩ := hc.keep hb
        have HT : Hid (sumN szEnt (l.take (k + 1)) = sk + szEnt (eat l k)) := by
          show _ = _
          rw [sumN_take_succ _ l k _ (eat_get hlt), HQ.out]
        have HSK : Hid ((eat l k).name.size ≤ maxLen ∧ FNames (eat l k).fs) := HS.out _ (List.mem_of_getElem? (eat_get hlt))
        have HFL : Hid (FldsAt wr fv (eat l k).fs) := hfl
        obtain ⟨fa, fc, rfl, -, -, -⟩ := hfl
        clear hc HC HS
        generalize eat l k = t at *
        go_wp2_with fail
        refine (szEntry_any t _ _ _ HFL.out HSK.out.1 HSK.out.2 (by omega) (by omega)).mono ?_
        rintro e w1 ⟨rfl, hb1⟩
        generalize szEnt t = st at *
        by_cases hneg : left - (l.length : Int) - (sk : Int) - (st : Int) < 0
        · rw [szR_neg (by omega)]
          go_wp2
          go_ret
          refine ⟨ret_int (szR_neg ?_).symm, below_step hb hb1⟩
          have h1 := HT.out; have h2 := HT'.out (k + 1)
          unfold szEnts; omega
        · rw [szR_pos (by omega)]
          have hge1 : 0 ≤ left - (l.length : Int) - (sk : Int) - (st : Int) := by omega
          go_wp2
          go_roundw
          case rel => exact ⟨k + 1, sk + st, by omega, by go_num, HT, by congr 1; omega, by omega, below_step hb hb1⟩
          case measure => simp [intOf]; omega
      · go_wp2
        go_ret
        refine ⟨ret_int ?_, hb⟩
        have h1 := HQ.out
        rw [List.take_of_length_le (by omega)] at h1
        rw [szR_pos (by unfold szEnts; omega)]
        unfold szEnts
        omega

set_option maxHeartbeats 800000 in
theorem eqEntry_any (e : Ent) (fv fv' : Value) (w : World) (hv : FldsAt w fv e.fs) (hv' : FldsAt w fv' e.fs) :
    Calls Tryz.prog 76 #[.agg #[.string e.name, fv], .agg #[.string e.name, fv']] w fun x w' => x = .returned (.bool true) ∧ Below w.heap.size w w' := by
  have HV : Hid (FldsAt w fv e.fs ∧ FldsAt w fv' e.fs) := ⟨hv, hv'⟩
  obtain ⟨a, cap, rfl, -, -, -⟩ := hv
  obtain ⟨a', cap', rfl, -, -, -⟩ := hv'
  have HB : Hid (∀ o o' : Obj, Below w.heap.size w ((w.alloc o).alloc o')) := fun o o' => ((Below.refl _ _).alloc (Nat.le_refl _) _).alloc (by simp) _
  go_enter Tryz.func76, Tryz.ntmps76
  go_wp2_with fail
  refine (eqFields_any _ _ e.fs _ (HV.out.1.keep (HB.out _ _)) (HV.out.2.keep (HB.out _ _))).mono ?_
  rintro x w1 ⟨rfl, hb1⟩
  go_wp2
  go_ret
  exact ⟨rfl, below_step (HB.out _ _) hb1⟩
end Go.Proofs.YtfjblenkcfdbiaaGreat

/-
  A region that draws its order, whose operations read what was there and whose calls only make new memory and answer plain values: one walk in the text's order serves every order (the library's theorem on quiet regions, at the class of the worlds in which nothing that was there has turned).
-/
namespace Go.Proofs.YtfjblenkcfdbiaaGreat
open Go.RowKit

/-- A world behind w in which nothing that was there has turned. -/
structure Later (w : World) where
  val : World
  below : Below w.heap.size w val

theorem Later.some (w : World) : Nonempty (Later w) := ⟨⟨w, Below.refl _ _⟩⟩
theorem Later.cell {w : World} (x : Later w) (b o : Nat) (h : b < w.heap.size) : x.val.cell? ⟨b, o, none⟩ = w.cell? ⟨b, o, none⟩ := x.below.cell (p := ⟨b, o, none⟩) h
theorem Later.frozen {w : World} (x : Later w) (b o : Nat) (h : b < w.heap.size) : x.val.frozen? ⟨b, o, none⟩ = w.frozen? ⟨b, o, none⟩ := x.below.frozen (p := ⟨b, o, none⟩) h

theorem wp_region_later {P : Program} {id : Nat} {Q : Exit → Act → World → Prop} {a : Act} {w : World} {l : List Oper} (hm : P.follows .mixedOrders = true) (hB : Region.lexB .any l.toArray = true)
    (h : wpQuiet P l.toArray (fun w' => ∃ x : Later w, w' = x.val) (fun a' => ∀ w', (∃ x : Later w, w' = x.val) → Q .normal a' w') l a) : (Code.region id l.toArray true).wp P Q a w :=
  wp_region_quiet (C := fun w' => ∃ x : Later w, w' = x.val) hm hB ⟨⟨_, (Below.refl _ _).drew⟩, rfl⟩ (by simpa using h)

/-- A call that only makes new memory, in such a world. -/
theorem Calls.later {P : Program} {f : FuncId} {args : Array Value} {w : World} {x : Later w} {v : Value}
    (h : Calls P f args x.val fun e w' => e = .returned v ∧ Below x.val.heap.size x.val w') : Calls P f args x.val fun e w'' => e = .returned v ∧ ∃ y : Later w, w'' = y.val :=
  h.mono fun _ _ ⟨he, hb⟩ => ⟨he, ⟨_, below_step x.below hb⟩, rfl⟩
theorem Calls.later_same {P : Program} {f : FuncId} {args : Array Value} {w : World} {x : Later w} {v : Value}
    (h : Calls P f args x.val fun e w' => e = .returned v ∧ w' = x.val) : Calls P f args x.val fun e w'' => e = .returned v ∧ ∃ y : Later w, w'' = y.val :=
  h.mono fun _ _ ⟨he, hb⟩ => ⟨he, x, hb⟩
end Go.Proofs.YtfjblenkcfdbiaaGreat

/-
  The specification's PlanBaseOk; the comparison of two bases.
-/
namespace Go.Proofs.YtfjblenkcfdbiaaGreat
open Go.RowKit
attribute [local go_sem] Later.cell Later.frozen

set_option maxHeartbeats 800000 in
theorem eqBase_any (vk vp uk up : Value) (ks ps : List Tri) (w : World) (hk : TrisAt w vk ks) (hp : TrisAt w vp ps) (hk' : TrisAt w uk ks) (hp' : TrisAt w up ps) :
    Calls Tryz.prog 35 #[.agg #[vk, vp], .agg #[uk, up]] w fun e w' => e = .returned (.bool true) ∧ Below w.heap.size w w' := by
  have HK := hk; have HP := hp; have HK' := hk'; have HP' := hp'
  obtain ⟨ak, ck, rfl, -, -, -⟩ := hk
  obtain ⟨ap, cp, rfl, -, -, -⟩ := hp
  obtain ⟨ak', ck', rfl, -, -, -⟩ := hk'
  obtain ⟨ap', cp', rfl, -, -, -⟩ := hp'
  have H1 : Hid (TrisAt w (.slice ak ks.length ck) ks ∧ TrisAt w (.slice ak' ks.length ck') ks) := ⟨HK, HK'⟩
  have H2 : Hid (TrisAt w (.slice ap ps.length cp) ps ∧ TrisAt w (.slice ap' ps.length cp') ps) := ⟨HP, HP'⟩
  clear HK HP HK' HP'
  go_enter Tryz.func35, Tryz.ntmps35
  go_wp2_with fail
  refine (eqKinds_any _ _ ks _ ((H1.out.1.alloc _).alloc _) ((H1.out.2.alloc _).alloc _)).mono ?_
  rintro e w1 ⟨rfl, hb1⟩
  have c01 : w1.cell? ⟨w.heap.size, 1, none⟩ = some (.slice ap ps.length cp) := cell_keep hb1 (Nat.le_refl _) (by simp [go_sem])
  have c11 : w1.cell? ⟨w.heap.size + 1, 1, none⟩ = some (.slice ap' ps.length cp') := cell_keep hb1 (Nat.le_refl _) (by simp [go_sem])
  have hbw : Below w.heap.size w w1 := below_step (((Below.refl _ _).alloc (Nat.le_refl _) _).alloc (by simp) _) hb1
  go_wp2_with fail
  refine (eqPoints_any _ _ ps _ (H2.out.1.keep hbw) (H2.out.2.keep hbw)).mono ?_
  rintro e w2 ⟨rfl, hb2⟩
  go_wp2
  go_ret
  exact ⟨rfl, below_step hbw hb2⟩

/-- What the loops of the specification hold: the box with the base is there, and all that was there is. -/
structure Boxed (w wr : World) (vk vp : Value) : Prop where
  below : Below w.heap.size w wr
  big : w.heap.size < wr.heap.size
  c0 : wr.cell? ⟨w.heap.size, 0, none⟩ = some vk
  c1 : wr.cell? ⟨w.heap.size, 1, none⟩ = some vp
theorem Boxed.start (w : World) (vk vp : Value) (T : TypeId) : Boxed w (w.alloc (.cells #[vk, vp] T)) vk vp :=
  ⟨(Below.refl _ _).alloc (Nat.le_refl _) _, by simp, by simp [go_sem], by simp [go_sem]⟩
theorem Boxed.call {w wr w' : World} {vk vp : Value} (h : Boxed w wr vk vp) (hb : Below wr.heap.size wr w') : Boxed w w' vk vp :=
  ⟨below_step h.below hb, Nat.lt_of_lt_of_le h.big hb.size, cell_keep hb (Nat.le_refl _) h.c0, cell_keep hb (Nat.le_refl _) h.c1⟩
theorem Boxed.drew {w wr : World} {vk vp : Value} (h : Boxed w wr vk vp) : Boxed w wr.drew vk vp :=
  ⟨h.below.drew, h.big, by simpa using h.c0, by simpa using h.c1⟩
theorem Boxed.drewN {w wr : World} {vk vp : Value} (h : Boxed w wr vk vp) (n : Nat) : Boxed w (wr.drewN n) vk vp :=
  h.call (below_drewN (Below.refl _ _) n)

theorem ok_zero {l : List Tri} {P : Tri → Bool} (h : P (at' l 0) = true) : (P (at' l 0) && ascB l 0) = true := by rw [h, asc_zero]; rfl

/-- One round of the specification's first loop, up to its place in the loop's own terms. -/
def kRound (l : List Tri) (k : Nat) : Bool := kindOkB (at' l k) && ascB l k
def pRound (l : List Tri) (k : Nat) : Bool := (pointOkB (at' l k) && ascB l k) && allB k fun i => !sameB (at' l i) (at' l k)

set_option maxRecDepth 100000 in
set_option maxHeartbeats 3200000 in
theorem specBase_any (vk vp : Value) (ks ps : List Tri) (w : World) (hk : TrisAt w vk ks) (hp : TrisAt w vp ps) (nk : Names ks) (np : Names ps) :
    Calls Tryz.prog 53 #[.agg #[vk, vp]] w fun e w' => e = .returned (.bool (kindsB ks && pointsB ps)) ∧ Below w.heap.size w w' := by
  have HK := hk; have HP := hp
  obtain ⟨ak, ck, rfl, lk, mk, ek⟩ := hk
  obtain ⟨ap, cp, rfl, lp, mp, ep⟩ := hp
  unfold maxLen at mk mp
  have HK1 : Hid (TrisAt w (.slice ak ks.length ck) ks) := HK
  have HP1 : Hid (TrisAt w (.slice ap ps.length cp) ps) := HP
  have NK : Hid (Names ks) := nk
  have NP : Hid (Names ps) := np
  have EK : Hid (∀ i t, ks[i]? = some t → ∃ b off, ak = some ⟨b, off, none⟩ ∧ TriAt w b (off + i * 3) t) := ek
  have EP : Hid (∀ i t, ps[i]? = some t → ∃ b off, ap = some ⟨b, off, none⟩ ∧ TriAt w b (off + i * 3) t) := ep
  clear HK HP nk np ek ep
  by_cases h1 : (6 : Int) < (ks.length : Int)
  · have e : (kindsB ks && pointsB ps) = false := by
      have : ¬ ks.length ≤ 6 := by omega
      rw [kindsB_eq]; simp [this]
    rw [e]; clear e
    go_enter Tryz.func53, Tryz.ntmps53
    go_wp2
    go_ret
    exact ⟨rfl, (Below.refl _ _).alloc (Nat.le_refl _) _⟩
  by_cases h2 : (16 : Int) < (ps.length : Int)
  · have e : (kindsB ks && pointsB ps) = false := by
      have : ¬ ps.length ≤ 16 := by omega
      rw [pointsB_eq]; simp [this]
    rw [e]; clear e
    go_enter Tryz.func53, Tryz.ntmps53
    go_wp2
    go_ret
    exact ⟨rfl, (Below.refl _ _).alloc (Nat.le_refl _) _⟩
  have hbk : kindsB ks = allB ks.length (kRound ks) := by rw [kindsB_eq]; have : ks.length ≤ 6 := by omega
                                                          simp only [this, decide_true, Bool.true_and]; rfl
  have HBK : Hid (kindsB ks = allB ks.length (kRound ks)) := hbk
  have hbp : pointsB ps = allB ps.length (pRound ps) := by rw [pointsB_eq]; have : ps.length ≤ 16 := by omega
                                                           simp only [this, decide_true, Bool.true_and]; rfl
  have HBP : Hid (pointsB ps = allB ps.length (pRound ps)) := hbp
  clear hbk hbp
  go_enter Tryz.func53, Tryz.ntmps53
  go_wp2
  go_loopw [3] (fun i wr => ∃ k : Nat, k ≤ ks.length ∧ i = .int .i64 k ∧ Boxed w wr (.slice ak ks.length ck) (.slice ap ps.length cp) ∧ Hid (∀ j, j < k → kRound ks j = true)) (fun i _ => ks.length - (intOf i).toNat)
  case atStart => exact ⟨0, Nat.zero_le _, rfl, Boxed.start _ _ _ _, fun j hj => absurd hj (Nat.not_lt_zero _)⟩
  case round =>
    obtain ⟨k, hk, rfl, hx, HA⟩ := hrel
    have x0 := hx.c0
    have x1 := hx.c1
    have xz := hx.big
    have HX : Hid (Boxed w wr (.slice ak ks.length ck) (.slice ap ps.length cp)) := hx
    clear hx
    by_cases hlt : k < ks.length
    · obtain ⟨b, off, rfl, hc⟩ := EK.out k _ (at_get hlt)
      obtain ⟨d0, d1, d2⟩ := hc.keep HX.out.below (Nat.le_refl _)
      have hsk : (at' ks k).s.size ≤ maxLen := NK.out _ (List.mem_of_getElem? (at_get hlt))
      have BAD : Hid (kRound ks k = false → (kindsB ks && pointsB ps) = false) := fun h => by rw [HBK.out, allB_false hlt h]; rfl
      have KR : Hid (kRound ks k = (kindOkB (at' ks k) && ascB ks k)) := rfl
      have hk0 : (0 : Int) ≤ (k : Int) := by omega
      have hk1 : (k : Int) < (ks.length : Int) := by omega
      have hbl : b < wr.heap.size := lt_of_cell d0
      have go1 : ∀ (v : Bool), Hid (kindOkB (at' ks k) = v) → ∀ x : Later wr, Calls Tryz.prog 92 #[.agg #[.string (at' ks k).s, .int .i64 (at' ks k).x, .int .i64 (at' ks k).y]] x.val fun e w'' => e = .returned (.bool v) ∧ ∃ y : Later wr, w'' = y.val :=
        fun v hv x => Calls.later (hv.out ▸ l1KindOk_any (at' ks k) x.val hsk)
      have GO : Hid (∀ (v : Bool), Hid (kindOkB (at' ks k) = v) → ∀ x : Later wr, Calls Tryz.prog 92 #[.agg #[.string (at' ks k).s, .int .i64 (at' ks k).x, .int .i64 (at' ks k).y]] x.val fun e w'' => e = .returned (.bool v) ∧ ∃ y : Later wr, w'' = y.val) := go1
      clear go1
      have hne := Later.some wr
      cases ho : kindOkB (at' ks k)
      · have HO : Hid (kindOkB (at' ks k) = false) := ho
        clear ho
        go_wp2
        refine wp_region_later (by kernel_rfl) (by kernel_rfl) ?_
        repeat (go_big_quiet_step (exact GO.out _ HO _))
        refine wpQuiet_nil ?_
        rintro _ ⟨x, rfl⟩
        go_wp2
        go_ret
        exact ⟨ret_bool (BAD.out (by rw [KR.out, HO.out]; rfl)).symm, below_step HX.out.below x.below⟩
      · have HO : Hid (kindOkB (at' ks k) = true) := ho
        clear ho
        by_cases hkz : (0 : Int) < (k : Int)
        · have hg : 0 < k := by omega
          obtain ⟨b', off', hbo, hcm'⟩ := EK.out (k - 1) _ (at_get (by omega))
          cases hbo
          obtain ⟨m0, -, -⟩ := hcm'.keep HX.out.below (Nat.le_refl _)
          have AS : Hid (ascB ks k = !geB (at' ks (k - 1)).s (at' ks k).s) := by
            show ascB ks k = _
            obtain ⟨m, rfl⟩ : ∃ m, k = m + 1 := ⟨k - 1, by omega⟩
            exact asc_succ ks m
          clear hcm' hc
          have hi0 : (0 : Int) ≤ (k : Int) - 1 := by omega
          have hi1 : (k : Int) - 1 < (ks.length : Int) := by omega
          go_wp2
          refine wp_region_later (by kernel_rfl) (by kernel_rfl) ?_
          repeat (go_big_quiet_step (exact GO.out _ HO _))
          refine wpQuiet_nil ?_
          rintro _ ⟨x, rfl⟩
          go_wp2
          · rename_i h
            go_ret
            exact ⟨ret_bool (BAD.out (by rw [KR.out, HO.out, AS.out]; unfold geB; rw [h]; rfl)).symm, below_step HX.out.below x.below⟩
          · rename_i h
            exact ⟨⟨k + 1, by omega, by go_num, HX.out.call x.below, fun j hj => if e : j = k then by rw [e, KR.out, HO.out, AS.out]; unfold geB; rw [h]; rfl else HA.out j (by omega)⟩, by simp [intOf]; omega⟩
        · have hg : decide (0 < k) = false := by simp; omega
          go_wp2
          refine wp_region_later (by kernel_rfl) (by kernel_rfl) ?_
          repeat (go_big_quiet_step (exact GO.out _ HO _))
          refine wpQuiet_nil ?_
          rintro _ ⟨x, rfl⟩
          go_wp2
          exact ⟨⟨k + 1, by omega, by go_num, HX.out.call x.below, fun j hj => by
            obtain rfl : j = k := by omega
            rw [KR.out, HO.out]; obtain rfl : j = 0 := by omega
            rw [asc_zero]; rfl⟩, by simp [intOf]; omega⟩
    · have HKT : Hid (kindsB ks = true) := HBK.out.trans (allB_true fun j hj => HA.out j (by omega))
      go_wp2
      clear HA EK NK HBK
      go_loopw [4, 5] (fun i _ wr => ∃ k : Nat, k ≤ ps.length ∧ i = .int .i64 k ∧ Boxed w wr (.slice ak ks.length ck) (.slice ap ps.length cp) ∧ Hid (∀ j, j < k → pRound ps j = true)) (fun i _ _ => ps.length - (intOf i).toNat)
      case atStart => exact ⟨0, Nat.zero_le _, rfl, HX.out, fun j hj => absurd hj (Nat.not_lt_zero _)⟩
      case round =>
        clear HX x0 x1 xz hlt hk
        obtain ⟨k, hk, rfl, hx, HA⟩ := hrel
        have x0 := hx.c0
        have x1 := hx.c1
        have xz := hx.big
        have HX : Hid (Boxed w wr (.slice ak ks.length ck) (.slice ap ps.length cp)) := hx
        clear hx
        by_cases hlt : k < ps.length
        · obtain ⟨b, off, rfl, hc⟩ := EP.out k _ (at_get hlt)
          obtain ⟨d0, d1, d2⟩ := hc.keep HX.out.below (Nat.le_refl _)
          have hsk : (at' ps k).s.size ≤ maxLen := NP.out _ (List.mem_of_getElem? (at_get hlt))
          have BAD : Hid (pRound ps k = false → (kindsB ks && pointsB ps) = false) := fun h => by rw [HKT.out, HBP.out, allB_false hlt h]; rfl
          have PR : Hid (pRound ps k = ((pointOkB (at' ps k) && ascB ps k) && allB k fun i => !sameB (at' ps i) (at' ps k))) := rfl
          have hk0 : (0 : Int) ≤ (k : Int) := by omega
          have hk1 : (k : Int) < (ps.length : Int) := by omega
          have hbl : b < wr.heap.size := lt_of_cell d0
          have GO : Hid (∀ (v : Bool), Hid (pointOkB (at' ps k) = v) → ∀ x : Later wr, Calls Tryz.prog 93 #[.agg #[.string (at' ps k).s, .int .i64 (at' ps k).x, .int .i64 (at' ps k).y]] x.val fun e w'' => e = .returned (.bool v) ∧ ∃ y : Later wr, w'' = y.val) :=
            fun v hv x => Calls.later (hv.out ▸ l1PointOk_any (at' ps k) x.val hsk)
          have hne := Later.some wr
          have HCK : Hid (TriAt w b (off + k * 3) (at' ps k)) := hc
          cases ho : pointOkB (at' ps k)
          · have HO : Hid (pointOkB (at' ps k) = false) := ho
            clear ho
            go_wp2
            refine wp_region_later (by kernel_rfl) (by kernel_rfl) ?_
            repeat (go_big_quiet_step (exact GO.out _ HO _))
            refine wpQuiet_nil ?_
            rintro _ ⟨x, rfl⟩
            go_wp2
            go_ret
            exact ⟨ret_bool (BAD.out (by rw [PR.out, HO.out]; rfl)).symm, below_step HX.out.below x.below⟩
          · have HO : Hid (pointOkB (at' ps k) = true) := ho
            clear ho
            by_cases hkz : (0 : Int) < (k : Int)
            · have hg : 0 < k := by omega
              obtain ⟨b', off', hbo, hcm'⟩ := EP.out (k - 1) _ (at_get (by omega))
              cases hbo
              obtain ⟨m0, -, -⟩ := hcm'.keep HX.out.below (Nat.le_refl _)
              have AS : Hid (ascB ps k = !geB (at' ps (k - 1)).s (at' ps k).s) := by
                show ascB ps k = _
                obtain ⟨m, rfl⟩ : ∃ m, k = m + 1 := ⟨k - 1, by omega⟩
                exact asc_succ ps m
              clear hcm' hc
              have hi0 : (0 : Int) ≤ (k : Int) - 1 := by omega
              have hi1 : (k : Int) - 1 < (ps.length : Int) := by omega
              go_wp2
              refine wp_region_later (by kernel_rfl) (by kernel_rfl) ?_
              repeat (go_big_quiet_step (exact GO.out _ HO _))
              refine wpQuiet_nil ?_
              rintro _ ⟨x, rfl⟩
              go_wp2
              · rename_i h
                go_ret
                exact ⟨ret_bool (BAD.out (by rw [PR.out, HO.out, AS.out]; unfold geB; rw [h]; rfl)).symm, below_step HX.out.below x.below⟩
              · rename_i h
                have HAS : Hid (ascB ps k = true) := by
                  show ascB ps k = true
                  rw [AS.out]; unfold geB; rw [h]; rfl
                clear m0
                have hy0 : Boxed w x.val (.slice ak ks.length ck) (.slice (some ⟨b, off, none⟩) ps.length cp) := HX.out.call x.below
                have HY0 : Hid (Boxed w x.val (.slice ak ks.length ck) (.slice (some ⟨b, off, none⟩) ps.length cp)) := hy0
                clear hy0 GO HX x0 x1 xz d0 d1 d2 hbl hne
                go_loopw [5] (fun i wr => ∃ j : Nat, j ≤ k ∧ i = .int .i64 j ∧ Boxed w wr (.slice ak ks.length ck) (.slice (some ⟨b, off, none⟩) ps.length cp) ∧ Hid (∀ q, q < j → (!sameB (at' ps q) (at' ps k)) = true)) (fun i _ => k - (intOf i).toNat)
                case atStart => exact ⟨0, Nat.zero_le _, rfl, HY0.out, fun j hj => absurd hj (Nat.not_lt_zero _)⟩
                case round =>
                  clear HY0
                  obtain ⟨j, hj, rfl, hy, HB⟩ := hrel
                  have y0 := hy.c0
                  have y1 := hy.c1
                  have yz := hy.big
                  have HY : Hid (Boxed w wr (.slice ak ks.length ck) (.slice (some ⟨b, off, none⟩) ps.length cp)) := hy
                  clear hy
                  by_cases hjk : j < k
                  · obtain ⟨b', off', hbo, hcj⟩ := EP.out j _ (at_get (by omega))
                    cases hbo
                    obtain ⟨-, e1, e2⟩ := hcj.keep HY.out.below (Nat.le_refl _)
                    obtain ⟨-, f1, f2⟩ := HCK.out.keep HY.out.below (Nat.le_refl _)
                    have hj0 : (0 : Int) ≤ (j : Int) := by omega
                    have hj1 : (j : Int) < (ps.length : Int) := by omega
                    have SM : Hid (sameB (at' ps j) (at' ps k) = (decide ((at' ps j).x = (at' ps k).x) && decide ((at' ps j).y = (at' ps k).y))) := rfl
                    have BADI : Hid ((!sameB (at' ps j) (at' ps k)) = false → (kindsB ks && pointsB ps) = false) := fun h => BAD.out (by rw [PR.out, allB_false hjk h, Bool.and_false])
                    clear hcj
                    by_cases hxx : (at' ps j).x = (at' ps k).x
                    · have hxb : ((at' ps j).x == (at' ps k).x) = true := by simp [hxx]
                      have HXX : Hid ((at' ps j).x = (at' ps k).x) := hxx
                      clear hxx
                      by_cases hyy : (at' ps j).y = (at' ps k).y
                      · have hyb : ((at' ps j).y == (at' ps k).y) = true := by simp [hyy]
                        have HYY : Hid ((at' ps j).y = (at' ps k).y) := hyy
                        clear hyy
                        go_wp2
                        refine wp_region_quiet_lit (by kernel_rfl) (by kernel_rfl) ?_
                        repeat (go_big_quiet_step (fail))
                        refine wpQuiet_nil ?_
                        rintro _ ⟨nq, rfl⟩
                        go_wp2
                        go_ret
                        exact ⟨ret_bool (BADI.out (by rw [SM.out, HXX.out, HYY.out]; simp)).symm, below_drewN HY.out.below _⟩
                      · have hyb : ((at' ps j).y == (at' ps k).y) = false := by simp [hyy]
                        have HYY : Hid (¬ (at' ps j).y = (at' ps k).y) := hyy
                        clear hyy
                        go_wp2
                        refine wp_region_quiet_lit (by kernel_rfl) (by kernel_rfl) ?_
                        repeat (go_big_quiet_step (fail))
                        refine wpQuiet_nil ?_
                        rintro _ ⟨nq, rfl⟩
                        go_wp2
                        exact ⟨⟨j + 1, by omega, by go_num, HY.out.drewN _, fun q hq => if e : q = j then by rw [e, SM.out]; simp [HYY.out] else HB.out q (by omega)⟩, by simp [intOf]; omega⟩
                    · have hxb : ((at' ps j).x == (at' ps k).x) = false := by simp [hxx]
                      have HXX : Hid (¬ (at' ps j).x = (at' ps k).x) := hxx
                      clear hxx
                      go_wp2
                      refine wp_region_quiet_lit (by kernel_rfl) (by kernel_rfl) ?_
                      repeat (go_big_quiet_step (fail))
                      refine wpQuiet_nil ?_
                      rintro _ ⟨nq, rfl⟩
                      go_wp2
                      exact ⟨⟨j + 1, by omega, by go_num, HY.out.drewN _, fun q hq => if e : q = j then by rw [e, SM.out]; simp [HXX.out] else HB.out q (by omega)⟩, by simp [intOf]; omega⟩
                  · have HPT : Hid (pRound ps k = true) := by
                      show pRound ps k = true
                      rw [PR.out, HO.out, HAS.out, allB_true fun q hq => HB.out q (by omega)]; rfl
                    go_wp2
                    exact ⟨⟨k + 1, by omega, by go_num, HY.out, fun q hq => if e : q = k then by rw [e]; exact HPT.out else HA.out q (by omega)⟩, by simp [intOf]; omega⟩
            · have hg : decide (0 < k) = false := by simp; omega
              go_wp2
              refine wp_region_later (by kernel_rfl) (by kernel_rfl) ?_
              repeat (go_big_quiet_step (exact GO.out _ HO _))
              refine wpQuiet_nil ?_
              rintro _ ⟨x, rfl⟩
              go_wp2
              have HAS : Hid (ascB ps k = true) := by
                show ascB ps k = true
                obtain rfl : k = 0 := by omega
                exact asc_zero ps
              have hy0 : Boxed w x.val (.slice ak ks.length ck) (.slice (some ⟨b, off, none⟩) ps.length cp) := HX.out.call x.below
              have HY0 : Hid (Boxed w x.val (.slice ak ks.length ck) (.slice (some ⟨b, off, none⟩) ps.length cp)) := hy0
              clear hy0 GO HX x0 x1 xz d0 d1 d2 hbl hne
              go_loopw [5] (fun i wr => ∃ j : Nat, j ≤ k ∧ i = .int .i64 j ∧ Boxed w wr (.slice ak ks.length ck) (.slice (some ⟨b, off, none⟩) ps.length cp) ∧ Hid (∀ q, q < j → (!sameB (at' ps q) (at' ps k)) = true)) (fun i _ => k - (intOf i).toNat)
              case atStart => exact ⟨0, Nat.zero_le _, rfl, HY0.out, fun j hj => absurd hj (Nat.not_lt_zero _)⟩
              case round =>
                clear HY0
                obtain ⟨j, hj, rfl, hy, HB⟩ := hrel
                have y0 := hy.c0
                have y1 := hy.c1
                have yz := hy.big
                have HY : Hid (Boxed w wr (.slice ak ks.length ck) (.slice (some ⟨b, off, none⟩) ps.length cp)) := hy
                clear hy
                by_cases hjk : j < k
                · exact absurd hjk (by omega)
                · have HPT : Hid (pRound ps k = true) := by
                    show pRound ps k = true
                    rw [PR.out, HO.out, HAS.out, allB_true fun q hq => HB.out q (by omega)]; rfl
                  go_wp2
                  exact ⟨⟨k + 1, by omega, by go_num, HY.out, fun q hq => if e : q = k then by rw [e]; exact HPT.out else HA.out q (by omega)⟩, by simp [intOf]; omega⟩
        · go_wp2
          go_ret
          exact ⟨ret_bool (by rw [HKT.out, HBP.out, allB_true fun j hj => HA.out j (by omega)]; rfl), HX.out.below⟩
end Go.Proofs.YtfjblenkcfdbiaaGreat
