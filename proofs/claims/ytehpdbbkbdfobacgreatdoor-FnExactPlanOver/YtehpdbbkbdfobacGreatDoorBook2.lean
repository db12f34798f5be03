/-
  Joined: Rows2, Book2.
-/
import Derived.Test.YtehpdbbkbdfobacGreatDoorCopies
import Derived.Test.YtehpdbbkbdfobacGreatDoorBook1

/-
  A block that is filled row by row.
-/
namespace Go.Proofs.YtehpdbbkbdfobacGreatDoor
open Go.RowKit

/-- The rows lie in block B, which has room for n of c cells each; nothing that was in w has turned. -/
structure FilledL (w wr : World) (B n c : Nat) (rows : List (List Value)) : Prop where
  below : Below w.heap.size w wr
  big : B < wr.heap.size
  old : w.heap.size ≤ B
  room : wr.there B 0 (n * c)
  wide : ∀ r ∈ rows, r.length = c
  has : ∀ i r, rows[i]? = some r → wr.rangeAt B (i * c) r

theorem FilledL.call {w wr w1 : World} {B n c : Nat} {rows : List (List Value)} (h : FilledL w wr B n c rows) (hb : Below wr.heap.size wr w1) : FilledL w w1 B n c rows :=
  ⟨below_step h.below hb, Nat.lt_of_lt_of_le h.big hb.size, h.old, there_keep h.room hb h.big, h.wide, fun i r hr => range_keep (h.has i r hr) hb h.big⟩
theorem rows_room {k n c j : Nat} (hk : k < n) (hj : j < c) : k * c + j < n * c :=
  Nat.lt_of_lt_of_le (Nat.add_lt_add_left hj _) (by rw [← Nat.succ_mul]; exact Nat.mul_le_mul_right c hk)
theorem FilledL.store {w wr : World} {B n c : Nat} {rows : List (List Value)} (h : FilledL w wr B n c rows) (hk : rows.length < n) {r : List Value} (hr : r.length = c) :
    FilledL w (wr.setCells B (rows.length * c) r) B n c (rows ++ [r]) := by
  have hthere : wr.there B (rows.length * c) r.length := fun j hj => by
    have := h.room (rows.length * c + j) (rows_room hk (hr ▸ hj))
    simpa using this
  refine ⟨h.below.trans (setCells_below _ h.old), ?_, h.old, World.there_setCells h.room _ _ _, fun x hx => ?_, fun i x hx => ?_⟩
  · exact Nat.lt_of_lt_of_le h.big (setCells_below (w := wr) (B := B) (o := rows.length * c) (vs := r) 0 (Nat.zero_le _)).size
  · rcases List.mem_append.1 hx with hx | hx
    · exact h.wide x hx
    · simp at hx; subst hx; exact hr
  · by_cases e : i < rows.length
    · rw [List.getElem?_append_left e] at hx
      refine World.rangeAt_setCells_apart (h.has i x hx) _ _ _ (.inr (.inl ?_))
      have h1 := h.wide x (List.mem_of_getElem? hx)
      have h2 : (i + 1) * c ≤ rows.length * c := Nat.mul_le_mul_right c e
      rw [Nat.succ_mul] at h2
      omega
    · rw [List.getElem?_append_right (by omega)] at hx
      have hi0 : i - rows.length = 0 := by
        have := (List.getElem?_eq_some_iff.1 hx).1
        simp at this; omega
      rw [hi0] at hx
      simp at hx; subst hx
      have e1 : i = rows.length := by omega
      subst e1
      exact World.rangeAt_setCells_same _ _ _ _ hthere
theorem FilledL.start (w : World) (C : Array Value) (T n c : Nat) (hC : C.size = n * c) : FilledL w (w.alloc (.cells C T)) w.heap.size n c [] :=
  ⟨(Below.refl _ _).alloc (Nat.le_refl _) _, by simp, Nat.le_refl _, made_there w C T _ hC, fun r hr => by simp at hr, fun i r hr => by simp at hr⟩
/-- A cell's place in the block: it can be written. -/
theorem FilledL.free {w wr : World} {B n c : Nat} {rows : List (List Value)} (h : FilledL w wr B n c rows) {k j : Nat} (hk : k < n) (hj : j < c) : (∃ v, wr.cell? ⟨B, k * c + j, none⟩ = some v) ∧ wr.frozen? ⟨B, k * c + j, none⟩ = false := by
  have := h.room (k * c + j) (rows_room hk hj)
  simpa [Option.isSome_iff_exists] using this
theorem FilledL.cell {w wr : World} {B n c : Nat} {rows : List (List Value)} (h : FilledL w wr B n c rows) {i j : Nat} {r : List Value} {v : Value} (hr : rows[i]? = some r) (hv : r[j]? = some v) : wr.cell? ⟨B, i * c + j, none⟩ = some v := h.has i r hr j v hv
end Go.Proofs.YtehpdbbkbdfobacGreatDoor

/-
  Copies of lists of fields; entries: sizes, copies, comparisons.
-/
namespace Go.Proofs.YtehpdbbkbdfobacGreatDoor
open Go.RowKit

def fldRow (f : Fld) : List Value := [.int .i64 f.what, .int .i64 f.num, .string f.v]
theorem FilledL.flds {w wr : World} {B n : Nat} {l : List Fld} (h : FilledL w wr B n 3 (l.map fldRow)) (hn : l.length = n) (hm : n ≤ maxLen) : FldsAt wr (.slice (some ⟨B, 0, none⟩) n n) l :=
  ⟨some ⟨B, 0, none⟩, n, by rw [hn], by omega, hm, fun i f hf => ⟨B, 0, rfl, by
    have hr : (l.map fldRow)[i]? = some (fldRow f) := by rw [List.getElem?_map, hf]; rfl
    refine ⟨?_, ?_, ?_⟩
    · simpa using h.cell hr (j := 0) (v := .int .i64 f.what) rfl
    · simpa using h.cell hr (j := 1) (v := .int .i64 f.num) rfl
    · simpa using h.cell hr (j := 2) (v := .string f.v) rfl⟩⟩

theorem infoField : (Tryz.prog.info? 170).map (fun i => (i.zero, i.size, i.bytes)) = some (some (.agg #[.int .i64 0, .int .i64 0, .string ByteArray.empty]), 3, 32) := by kernel_rfl
theorem infoEntry : (Tryz.prog.info? 114).map (fun i => (i.zero, i.size, i.bytes)) = some (some (.agg #[.string ByteArray.empty, .slice none 0 0]), 2, 40) := by kernel_rfl

set_option maxHeartbeats 800000 in
theorem toFields_any (v : Value) (l : List Fld) (w : World) (hv : FldsAt w v l) (hn : l.length ≤ 1048576) :
    Calls Tryz.prog 115 #[v] w fun e w' => e = .returned (.slice (some ⟨w.heap.size, 0, none⟩) l.length l.length) ∧ FilledL w w' w.heap.size l.length 3 (l.map fldRow) := by
  obtain ⟨a, cap, rfl, hlc, hcm, hc⟩ := hv
  unfold maxLen at hcm
  have HC : Hid (∀ i f, l[i]? = some f → ∃ b off, a = some ⟨b, off, none⟩ ∧ FldAt w b (off + i * 3) f) := hc
  clear hc
  obtain ⟨i0, hi, hz0, hz1, hz2⟩ := info_parts infoField
  have hmk : ∀ w : World, (Instr.makeSlice 112 (.int .i64 (l.length : Int)) (.int .i64 (l.length : Int))).run Tryz.prog w = .ok (.slice (some ⟨w.heap.size, 0, none⟩) l.length l.length) (w.alloc (.cells (madeCells (Value.agg #[.int .i64 0, .int .i64 0, .string ByteArray.empty]).cells (l.length * 3)) 170)) := fun w => by
    have h := run_make (P := Tryz.prog) w 112 170 i0 _ Tryz.underlying112 hi hz0 .i64 .i64 l.length l.length (by omega) (by omega) (by rw [hz2]; omega) (by omega)
    rw [hz1] at h
    simpa using h
  have HM : Hid ((madeCells (Value.agg #[.int .i64 0, .int .i64 0, .string ByteArray.empty]).cells (l.length * 3)).size = l.length * 3) := size_madeCells _ _
  generalize madeCells (Value.agg #[.int .i64 0, .int .i64 0, .string ByteArray.empty]).cells (l.length * 3) = C at hmk HM
  clear hi hz0 hz1 hz2
  go_enter Tryz.func115, Tryz.ntmps115
  go_wp2
  go_loopw [4] (fun i wr => ∃ k : Nat, k ≤ l.length ∧ i = .int .i64 k ∧ FilledL w wr w.heap.size l.length 3 ((l.take k).map fldRow)) (fun i _ => l.length - (intOf i).toNat)
  case atStart => exact ⟨0, Nat.zero_le _, rfl, by simpa using FilledL.start w C _ _ _ HM.out⟩
  case round =>
    obtain ⟨k, hk, rfl, hf⟩ := hrel
    by_cases hlt : k < l.length
    · obtain ⟨b, off, rfl, hc⟩ := HC.out k _ (fat_get hlt)
      obtain ⟨d0, d1, d2⟩ := hc.keep hf.below (Nat.le_refl _)
      have HK : Hid (((l.take k).map fldRow).length = k ∧ (l.take (k + 1)).map fldRow = (l.take k).map fldRow ++ [fldRow (fat l k)]) := ⟨by simp; omega, by
        rw [List.take_succ_eq_append_getElem hlt, List.map_append]
        have : l[k] = fat l k := by simp [fat, hlt]
        rw [this]; rfl⟩
      clear hc HC
      generalize fat l k = t at *
      have hk0 : (0 : Int) ≤ (k : Int) := by omega
      have hk1 : (k : Int) < (l.length : Int) := by omega
      go_wp2_with fail
      refine (toField_any t _).mono ?_
      rintro e w1 ⟨rfl, hb1⟩
      have hf1 := hf.call hb1
      obtain ⟨⟨v0, e0⟩, f0⟩ := hf1.free hlt (j := 0) (by omega)
      obtain ⟨⟨v1, e1⟩, f1⟩ := hf1.free hlt (j := 1) (by omega)
      obtain ⟨⟨v2, e2⟩, f2⟩ := hf1.free hlt (j := 2) (by omega)
      simp only [Nat.add_zero] at e0 f0
      go_wp2
      have hst := hf1.store (r := fldRow t) (by rw [HK.out.1]; exact hlt) rfl
      rw [HK.out.1, ← HK.out.2] at hst
      exact ⟨⟨k + 1, by omega, by go_num, hst⟩, by simp [intOf]; omega⟩
    · go_wp2
      go_ret
      obtain rfl : k = l.length := by omega
      rw [List.take_length] at hf
      exact ⟨rfl, hf⟩

set_option maxHeartbeats 800000 in
theorem szEntry_any (e : Ent) (fv : Value) (left : Int) (w : World) (hv : FldsAt w fv e.fs) (hn : e.name.size ≤ maxLen) (hs : FNames e.fs) (hl : 0 ≤ left) (hl' : left ≤ 1048576) :
    Calls Tryz.prog 56 #[.agg #[.string e.name, fv], .int .i64 left] w fun x w' => x = .returned (.int .i64 (szR (szEnt e) left)) ∧ Below w.heap.size w w' := by
  unfold maxLen at hn
  have HV : Hid (FldsAt w fv e.fs) := hv
  have HS : Hid (FNames e.fs) := hs
  obtain ⟨a, cap, rfl, -, -, -⟩ := hv
  have HZ : Hid (szEnt e = e.name.size + szFlds e.fs) := rfl
  clear hs
  by_cases h : left - (e.name.size : Int) < 0
  · rw [szR_neg (by rw [HZ.out]; omega)]
    go_enter Tryz.func56, Tryz.ntmps56
    go_wp2
    go_ret
    exact ⟨rfl, (Below.refl _ _).alloc (Nat.le_refl _) _⟩
  · have hge : 0 ≤ left - (e.name.size : Int) := by omega
    by_cases h2 : (szFlds e.fs : Int) ≤ left - (e.name.size : Int)
    · have H2 : Hid (szR (szFlds e.fs) (left - (e.name.size : Int)) = left - (e.name.size : Int) - szFlds e.fs) := szR_pos h2
      have hge2 : 0 ≤ left - (e.name.size : Int) - szFlds e.fs := by omega
      have HF : Hid (szR (szEnt e) left = left - (e.name.size : Int) - szFlds e.fs) := by
        show _ = _
        rw [szR_pos (by rw [HZ.out]; omega), HZ.out]; omega
      clear h2
      go_enter Tryz.func56, Tryz.ntmps56
      go_wp2_with fail
      refine (szFields_any _ e.fs _ _ (HV.out.keep ((Below.refl _ _).alloc (Nat.le_refl _) _)) HS.out hge (by omega)).mono ?_
      rw [H2.out]
      rintro x w1 ⟨rfl, hb1⟩
      generalize left - (e.name.size : Int) - szFlds e.fs = q at *
      go_wp2
      go_ret
      exact ⟨ret_int HF.out.symm, below_step ((Below.refl _ _).alloc (Nat.le_refl _) _) hb1⟩
    · have H2 : Hid (szR (szFlds e.fs) (left - (e.name.size : Int)) = -1) := szR_neg h2
      have HF : Hid (szR (szEnt e) left = -1) := szR_neg (by rw [HZ.out]; omega)
      clear h2
      go_enter Tryz.func56, Tryz.ntmps56
      go_wp2_with fail
      refine (szFields_any _ e.fs _ _ (HV.out.keep ((Below.refl _ _).alloc (Nat.le_refl _) _)) HS.out hge (by omega)).mono ?_
      rw [H2.out]
      rintro x w1 ⟨rfl, hb1⟩
      go_wp2
      go_ret
      exact ⟨ret_int HF.out.symm, below_step ((Below.refl _ _).alloc (Nat.le_refl _) _) hb1⟩

set_option maxHeartbeats 800000 in
theorem szEntries_any (v : Value) (l : List Ent) (left : Int) (w : World) (hv : EntsAt w v l) (hs : ENames l) (hl : 0 ≤ left) (hl' : left ≤ 1048576) :
    Calls Tryz.prog 20 #[v, .int .i64 left] w fun e w' => e = .returned (.int .i64 (szR (szEnts l) left)) ∧ Below w.heap.size w w' := by
  obtain ⟨a, cap, rfl, hlc, hcm, hc⟩ := hv
  unfold maxLen at hcm
  by_cases hn : left - (l.length : Int) < 0
  · rw [szR_neg (by unfold szEnts; omega)]
    clear hc
    go_enter Tryz.func20, Tryz.ntmps20
    go_wp2
    go_ret
    exact ⟨rfl, Below.refl _ _⟩
  · have HC : Hid (∀ i f, l[i]? = some f → ∃ b off, a = some ⟨b, off, none⟩ ∧ EntAt w b (off + i * 2) f) := hc
    have HS : Hid (ENames l) := hs
    clear hc hs
    have HT' : Hid (∀ k, sumN szEnt (l.take k) ≤ sumN szEnt l) := fun k => sumN_take_le _ l k
    go_enter Tryz.func20, Tryz.ntmps20
    go_wp2
    go_loopw [1, 5] (fun lf i w' => ∃ k s : Nat, k ≤ l.length ∧ i = .int .i64 k ∧ Hid (sumN szEnt (l.take k) = s) ∧ lf = .int .i64 (left - l.length - s) ∧ 0 ≤ left - l.length - s ∧ Below w.heap.size w w') (fun _ i _ => l.length - (intOf i).toNat)
    case atStart => exact ⟨0, 0, Nat.zero_le _, rfl, rfl, by simp, by simp; omega, Below.refl _ _⟩
    case round =>
      obtain ⟨k, sk, hk, rfl, HQ, rfl, hge, hb⟩ := hrel
      by_cases hlt : k < l.length
      · obtain ⟨b, off, rfl, hc⟩ := HC.out k _ (eat_get hlt)
        obtain ⟨fv, d0, d1, hfl⟩ := hc.keep hb
        have HT : Hid (sumN szEnt (l.take (k + 1)) = sk + szEnt (eat l k)) := by
          show _ = _
          rw [sumN_take_succ _ l k _ (eat_get hlt), HQ.out]
        have HSK : Hid ((eat l k).name.size ≤ maxLen ∧ FNames (eat l k).fs) := HS.out _ (List.mem_of_getElem? (eat_get hlt))
        have HFL : Hid (FldsAt wr fv (eat l k).fs) := hfl
        obtain ⟨fa, fc, rfl, -, -, -⟩ := hfl
        clear hc HC HS
        generalize eat l k = t at *
        go_wp2_with fail
        refine (szEntry_any t _ _ _ HFL.out HSK.out.1 HSK.out.2 (by omega) (by omega)).mono ?_
        rintro e w1 ⟨rfl, hb1⟩
        generalize szEnt t = st at *
        by_cases hneg : left - (l.length : Int) - (sk : Int) - (st : Int) < 0
        · rw [szR_neg (by omega)]
          go_wp2
          go_ret
          refine ⟨ret_int (szR_neg ?_).symm, below_step hb hb1⟩
          have h1 := HT.out; have h2 := HT'.out (k + 1)
          unfold szEnts; omega
        · rw [szR_pos (by omega)]
          have hge1 : 0 ≤ left - (l.length : Int) - (sk : Int) - (st : Int) := by omega
          go_wp2
          go_roundw
          case rel => exact ⟨k + 1, sk + st, by omega, by go_num, HT, by congr 1; omega, by omega, below_step hb hb1⟩
          case measure => simp [intOf]; omega
      · go_wp2
        go_ret
        refine ⟨ret_int ?_, hb⟩
        have h1 := HQ.out
        rw [List.take_of_length_le (by omega)] at h1
        rw [szR_pos (by unfold szEnts; omega)]
        unfold szEnts
        omega

set_option maxHeartbeats 800000 in
theorem eqEntry_any (e : Ent) (fv fv' : Value) (w : World) (hv : FldsAt w fv e.fs) (hv' : FldsAt w fv' e.fs) :
    Calls Tryz.prog 82 #[.agg #[.string e.name, fv], .agg #[.string e.name, fv']] w fun x w' => x = .returned (.bool true) ∧ Below w.heap.size w w' := by
  have HV : Hid (FldsAt w fv e.fs ∧ FldsAt w fv' e.fs) := ⟨hv, hv'⟩
  obtain ⟨a, cap, rfl, -, -, -⟩ := hv
  obtain ⟨a', cap', rfl, -, -, -⟩ := hv'
  have HB : Hid (∀ o o' : Obj, Below w.heap.size w ((w.alloc o).alloc o')) := fun o o' => ((Below.refl _ _).alloc (Nat.le_refl _) _).alloc (by simp) _
  go_enter Tryz.func82, Tryz.ntmps82
  go_wp2_with fail
  refine (eqFields_any _ _ e.fs _ (HV.out.1.keep (HB.out _ _)) (HV.out.2.keep (HB.out _ _))).mono ?_
  rintro x w1 ⟨rfl, hb1⟩
  go_wp2
  go_ret
  exact ⟨rfl, below_step (HB.out _ _) hb1⟩
end Go.Proofs.YtehpdbbkbdfobacGreatDoor
