
/-
  Copies of lists of fields; entries: sizes, copies, comparisons.
-/
import Derived.Test.YtfjblenkcfdbiaaGreatDoorBook1
import Derived.Test.YtfjblenkcfdbiaaGreatDoorRows2
namespace Go.Proofs.YtfjblenkcfdbiaaGreatDoor
open Go.RowKit

def fldRow (f : Fld) : List Value := [.int .i64 f.what, .int .i64 f.num, .string f.v]
theorem FilledL.flds {w wr : World} {B n : Nat} {l : List Fld} (h : FilledL w wr B n 3 (l.map fldRow)) (hn : l.length = n) (hm : n ≤ maxLen) : FldsAt wr (.slice (some ⟨B, 0, none⟩) n n) l :=
  ⟨some ⟨B, 0, none⟩, n, by rw [hn], by omega, hm, fun i f hf => ⟨B, 0, rfl, by
    have hr : (l.map fldRow)[i]? = some (fldRow f) := by rw [List.getElem?_map, hf]; rfl
    refine ⟨?_, ?_, ?_⟩
    · simpa using h.cell hr (j := 0) (v := .int .i64 f.what) rfl
    · simpa using h.cell hr (j := 1) (v := .int .i64 f.num) rfl
    · simpa using h.cell hr (j := 2) (v := .string f.v) rfl⟩⟩

theorem infoField : (Tryz.prog.info? 62).map (fun i => (i.zero, i.size, i.bytes)) = some (some (.agg #[.int .i64 0, .int .i64 0, .string ByteArray.empty]), 3, 32) := by kernel_rfl
theorem infoEntry : (Tryz.prog.info? 60).map (fun i => (i.zero, i.size, i.bytes)) = some (some (.agg #[.string ByteArray.empty, .slice none 0 0]), 2, 40) := by kernel_rfl

set_option maxHeartbeats 800000 in
theorem toFields_any (v : Value) (l : List Fld) (w : World) (hv : FldsAt w v l) (hn : l.length ≤ 1048576) :
    Calls Tryz.prog 87 #[v] w fun e w' => e = .returned (.slice (some ⟨w.heap.size, 0, none⟩) l.length l.length) ∧ FilledL w w' w.heap.size l.length 3 (l.map fldRow) := by
  obtain ⟨a, cap, rfl, hlc, hcm, hc⟩ := hv
  unfold maxLen at hcm
  have HC : Hid (∀ i f, l[i]? = some f → ∃ b off, a = some ⟨b, off, none⟩ ∧ FldAt w b (off + i * 3) f) := hc
  clear hc
  obtain ⟨i0, hi, hz0, hz1, hz2⟩ := info_parts infoField
  have hmk : ∀ w : World, (Instr.makeSlice 58 (.int .i64 (l.length : Int)) (.int .i64 (l.length : Int))).run Tryz.prog w = .ok (.slice (some ⟨w.heap.size, 0, none⟩) l.length l.length) (w.alloc (.cells (madeCells (Value.agg #[.int .i64 0, .int .i64 0, .string ByteArray.empty]).cells (l.length * 3)) 62)) := fun w => by
    have h := run_make (P := Tryz.prog) w 58 62 i0 _ Tryz.underlying58 hi hz0 .i64 .i64 l.length l.length (by omega) (by omega) (by rw [hz2]; omega) (by omega)
    rw [hz1] at h
    simpa using h
  have HM : Hid ((madeCells (Value.agg #[.int .i64 0, .int .i64 0, .string ByteArray.empty]).cells (l.length * 3)).size = l.length * 3) := size_madeCells _ _
  generalize madeCells (Value.agg #[.int .i64 0, .int .i64 0, .string ByteArray.empty]).cells (l.length * 3) = C at hmk HM
  clear hi hz0 hz1 hz2
  go_enter Tryz.func87, Tryz.ntmps87
  go_wp2
  go_loopw [4] (fun i wr => ∃ k : Nat, k ≤ l.length ∧ i = .int .i64 k ∧ FilledL w wr w.heap.size l.length 3 ((l.take k).map fldRow)) (fun i _ => l.length - (intOf i).toNat)
  case atStart => exact ⟨0, Nat.zero_le _, rfl, by simpa using FilledL.start w C _ _ _ HM.out⟩
  case round =>
    obtain ⟨k, hk, rfl, hf⟩ := hrel
    by_cases hlt : k < l.length
    · obtain ⟨b, off, rfl, hc⟩ := HC.out k _ (fat_get hlt)
      obtain ⟨d0, d1, d2⟩ := hc.keep hf.below (Nat.le_refl _)
      have HK : Hid (((l.take k).map fldRow).length = k ∧ (l.take (k + 1)).map fldRow = (l.take k).map fldRow ++ [fldRow (fat l k)]) := ⟨by simp; omega, by
        rw [List.take_succ_eq_append_getElem hlt, List.map_append]
        have : l[k] = fat l k := by simp [fat, hlt]
        rw [this]; rfl⟩
      clear hc HC
      generalize fat l k = t at *
      have hk0 : (0 : Int) ≤ (k : Int) := by omega
      have hk1 : (k : Int) < (l.length : Int) := by omega
      go_wp2_with fail
      refine (toField_any t _).mono ?_
      rintro e w1 ⟨rfl, hb1⟩
      have hf1 := hf.call hb1
      obtain ⟨⟨v0, e0⟩, f0⟩ := hf1.free hlt (j := 0) (by omega)
      obtain ⟨⟨v1, e1⟩, f1⟩ := hf1.free hlt (j := 1) (by omega)
      obtain ⟨⟨v2, e2⟩, f2⟩ := hf1.free hlt (j := 2) (by omega)
      simp only [Nat.add_zero] at e0 f0
      go_wp2
      have hst := hf1.store (r := fldRow t) (by rw [HK.out.1]; exact hlt) rfl
      rw [HK.out.1, ← HK.out.2] at hst
      exact ⟨⟨k + 1, by omega, by go_num, hst⟩, by simp [intOf]; omega⟩
    · go_wp2
      go_ret
      obtain rfl : k = l.length := by omega
      rw [List.take_length] at hf
      exact ⟨rfl, hf⟩

set_option maxHeartbeats 800000 in
theorem szEntry_any (e : Ent) (fv : Value) (left : Int) (w : World) (hv : FldsAt w fv e.fs) (hn : e.name.size ≤ maxLen) (hs : FNames e.fs) (hl : 0 ≤ left) (hl' : left ≤ 1048576) :
    Calls Tryz.prog 43 #[.agg #[.string e.name, fv], .int .i64 left] w fun x w' => x = .returned (.int .i64 (szR (szEnt e) left)) ∧ Below w.heap.size w w' := by
  unfold maxLen at hn
  have HV : Hid (FldsAt w fv e.fs) := hv
  have HS : Hid (FNames e.fs) := hs
  obtain ⟨a, cap, rfl, -, -, -⟩ := hv
  have HZ : Hid (szEnt e = e.name.size + szFlds e.fs) := rfl
  clear hs
  by_cases h : left - (e.name.size : Int) < 0
  · rw [szR_neg (by rw [HZ.out]; omega)]
    go_enter Tryz.func43, Tryz.ntmps43
    go_wp2
    go_ret
    exact ⟨rfl, (Below.refl _ _).alloc (Nat.le_refl _) _⟩
  · have hge : 0 ≤ left - (e.name.size : Int) := by omega
    by_cases h2 : (szFlds e.fs : Int) ≤ left - (e.name.size : Int)
    · have H2 : Hid (szR (szFlds e.fs) (left - (e.name.size : Int)) = left - (e.name.size : Int) - szFlds e.fs) := szR_pos h2
      have hge2 : 0 ≤ left - (e.name.size : Int) - szFlds e.fs := by omega
      have HF : Hid (szR (szEnt e) left = left - (e.name.size : Int) - szFlds e.fs) := by
        show _ = _
        rw [szR_pos (by rw [HZ.out]; omega), HZ.out]; omega
      clear h2
      go_enter Tryz.func43, Tryz.ntmps43
      go_wp2_with fail
      refine (szFields_any _ e.fs _ _ (HV.out.keep ((Below.refl _ _).alloc (Nat.le_refl _) _)) HS.out hge (by omega)).mono ?_
      rw [H2.out]
      rintro x w1 ⟨rfl, hb1⟩
      generalize left - (e.name.size : Int) - szFlds e.fs = q at *
      go_wp2
      go_ret
      exact ⟨ret_int HF.out.symm, below_step ((Below.refl _ _).alloc (Nat.le_refl _) _) hb1⟩
    · have H2 : Hid (szR (szFlds e.fs) (left - (e.name.size : Int)) = -1) := szR_neg h2
      have HF : Hid (szR (szEnt e) left = -1) := szR_neg (by rw [HZ.out]; omega)
      clear h2
      go_enter Tryz.func43, Tryz.ntmps43
      go_wp2_with fail
      refine (szFields_any _ e.fs _ _ (HV.out.keep ((Below.refl _ _).alloc (Nat.le_refl _) _)) HS.out hge (by omega)).mono ?_
      rw [H2.out]
      rintro x w1 ⟨rfl, hb1⟩
      go_wp2
      go_ret
      exact ⟨ret_int HF.out.symm, below_step ((Below.refl _ _).alloc (Nat.le_refl _) _) hb1⟩

set_option maxHeartbeats 800000 in
theorem szEntries_any (v : Value) (l : List Ent) (left : Int) (w : World) (hv : EntsAt w v l) (hs : ENames l) (hl : 0 ≤ left) (hl' : left ≤ 1048576) :
    Calls Tryz.prog 17 #[v, .int .i64 left] w fun e w' => e = .returned (.int .i64 (szR (szEnts l) left)) ∧ Below w.heap.size w w' := by
  obtain ⟨a, cap, rfl, hlc, hcm, hc⟩ := hv
  unfold maxLen at hcm
  by_cases hn : left - (l.length : Int) < 0
  · rw [szR_neg (by unfold szEnts; omega)]
    clear hc
    go_enter Tryz.func17, Tryz.ntmps17
    go_wp2
    go_ret
    exact ⟨rfl, Below.refl _ _⟩
  · have HC : Hid (∀ i f, l[i]? = some f → ∃ b off, a = some ⟨b, off, none⟩ ∧ EntAt w b (off + i * 2) f) := hc
    have HS : Hid (ENames l) := hs
    clear hc hs
    have HT' : Hid (∀ k, sumN szEnt (l.take k) ≤ sumN szEnt l) := fun k => sumN_take_le _ l k
    go_enter Tryz.func17, Tryz.ntmps17
    go_wp2
    go_loopw [1, 5] (fun lf i w' => ∃ k s : Nat, k ≤ l.length ∧ i = .int .i64 k ∧ Hid (sumN szEnt (l.take k) = s) ∧ lf = .int .i64 (left - l.length - s) ∧ 0 ≤ left - l.length - s ∧ Below w.heap.size w w') (fun _ i _ => l.length - (intOf i).toNat)
    case atStart => exact ⟨0, 0, Nat.zero_le _, rfl, rfl, by simp, by simp; omega, Below.refl _ _⟩
    case round =>
      obtain ⟨k, sk, hk, rfl, HQ, rfl, hge, hb⟩ := hrel
      by_cases hlt : k < l.length
      · obtain ⟨b, off, rfl, hc⟩ := HC.out k _ (eat_get hlt)
        obtain ⟨fv, d0, d1, hfl⟩ := hc.keep hb
        have HT : Hid (sumN szEnt (l.take (k + 1)) = sk + szEnt (eat l k)) := by
          show _ = _
          rw [sumN_take_succ _ l k _ (eat_get hlt), HQ.out]
        have HSK : Hid ((eat l k).name.size ≤ maxLen ∧ FNames (eat l k).fs) := HS.out _ (List.mem_of_getElem? (eat_get hlt))
        have HFL : Hid (FldsAt wr fv (eat l k).fs) := hfl
        obtain ⟨fa, fc, rfl, -, -, -⟩ := hfl
        clear hc HC HS
        generalize eat l k = t at *
        go_wp2_with fail
        refine (szEntry_any t _ _ _ HFL.out HSK.out.1 HSK.out.2 (by omega) (by omega)).mono ?_
        rintro e w1 ⟨rfl, hb1⟩
        generalize szEnt t = st at *
        by_cases hneg : left - (l.length : Int) - (sk : Int) - (st : Int) < 0
        · rw [szR_neg (by omega)]
          go_wp2
          go_ret
          refine ⟨ret_int (szR_neg ?_).symm, below_step hb hb1⟩
          have h1 := HT.out; have h2 := HT'.out (k + 1)
          unfold szEnts; omega
        · rw [szR_pos (by omega)]
          have hge1 : 0 ≤ left - (l.length : Int) - (sk : Int) - (st : Int) := by omega
          go_wp2
          go_roundw
          case rel => exact ⟨k + 1, sk + st, by omega, by go_num, HT, by congr 1; omega, by omega, below_step hb hb1⟩
          case measure => simp [intOf]; omega
      · go_wp2
        go_ret
        refine ⟨ret_int ?_, hb⟩
        have h1 := HQ.out
        rw [List.take_of_length_le (by omega)] at h1
        rw [szR_pos (by unfold szEnts; omega)]
        unfold szEnts
        omega

set_option maxHeartbeats 800000 in
theorem eqEntry_any (e : Ent) (fv fv' : Value) (w : World) (hv : FldsAt w fv e.fs) (hv' : FldsAt w fv' e.fs) :
    Calls Tryz.prog 66 #[.agg #[.string e.name, fv], .agg #[.string e.name, fv']] w fun x w' => x = .returned (.bool true) ∧ Below w.heap.size w w' := by
  have HV : Hid (FldsAt w fv e.fs ∧ FldsAt w fv' e.fs) := ⟨hv, hv'⟩
  obtain ⟨a, cap, rfl, -, -, -⟩ := hv
  obtain ⟨a', cap', rfl, -, -, -⟩ := hv'
  have HB : Hid (∀ o o' : Obj, Below w.heap.size w ((w.alloc o).alloc o')) := fun o o' => ((Below.refl _ _).alloc (Nat.le_refl _) _).alloc (by simp) _
  go_enter Tryz.func66, Tryz.ntmps66
  go_wp2_with fail
  refine (eqFields_any _ _ e.fs _ (HV.out.1.keep (HB.out _ _)) (HV.out.2.keep (HB.out _ _))).mono ?_
  rintro x w1 ⟨rfl, hb1⟩
  go_wp2
  go_ret
  exact ⟨rfl, below_step (HB.out _ _) hb1⟩
end Go.Proofs.YtfjblenkcfdbiaaGreatDoor
