
/-
  Lists of texts: measured, copied, held against each other, marked.
-/
import Derived.Test.YtfjblenkcfdbiaaMark3
import Derived.Test.YtfjblenkcfdbiaaCut
import Derived.Test.YtfjblenkcfdbiaaFitsB
import Derived.Test.YtfjblenkcfdbiaaOwn
namespace Go.Proofs.Ytfjblenkcfdbiaa
open Go.RowKit
attribute [local go_sem] Later.cell Later.frozen
set_option linter.unusedSimpArgs false
set_option linter.unusedVariables false

/-- Texts that lie in memory, nil if there are none. -/
def SArg (w : World) (v : Value) (ws : List ByteArray) : Prop := ∃ a cap, v = .slice a ws.length cap ∧ ws.length ≤ cap ∧ cap ≤ maxLen ∧ ∀ i x, ws[i]? = some x → ∃ b off, a = some ⟨b, off, none⟩ ∧ w.cell? ⟨b, off + i, none⟩ = some (.string x)
def SNames (l : List ByteArray) : Prop := ∀ x ∈ l, x.size ≤ maxLen
theorem SArg.keep {w w' : World} {v : Value} {ws : List ByteArray} (h : SArg w v ws) (hb : Below w.heap.size w w') : SArg w' v ws := by
  obtain ⟨a, cap, h1, h2, h3, h4⟩ := h
  refine ⟨a, cap, h1, h2, h3, fun i x hx => ?_⟩
  obtain ⟨b, off, ha, hc⟩ := h4 i x hx
  exact ⟨b, off, ha, cell_keep hb (Nat.le_refl _) hc⟩
theorem StrsAt.arg {w : World} {v : Value} {ws : List ByteArray} (h : StrsAt w v ws) : SArg w v ws := by
  obtain ⟨g, off, cap, h1, h2, h3, h4⟩ := h
  exact ⟨_, cap, h1, h2, h3, fun i x hx => ⟨g, off, rfl, h4 i x hx⟩⟩
def sumB : List ByteArray → Nat
  | [] => 0
  | t :: r => t.size + sumB r
theorem sumB_append (l r : List ByteArray) : sumB (l ++ r) = sumB l + sumB r := by
  induction l with
  | nil => simp [sumB]
  | cons a l ih => simp [sumB, ih]; omega
theorem sumB_take_succ (l : List ByteArray) (k : Nat) (h : k < l.length) : sumB (l.take (k + 1)) = sumB (l.take k) + (wat l k).size := by
  rw [List.take_succ_eq_append_getElem h, sumB_append]; simp [sumB, wat, h]
theorem sumB_take_le (l : List ByteArray) (k : Nat) : sumB (l.take k) ≤ sumB l := by
  conv => rhs; rw [← List.take_append_drop k l, sumB_append]
  omega
def szStrs (l : List ByteArray) : Nat := l.length + sumB l
set_option maxHeartbeats 1600000 in
theorem szStrs_any (v : Value) (l : List ByteArray) (left : Int) (w : World) (hv : SArg w v l) (hs : SNames l) (hl : 0 ≤ left) (hl' : left ≤ 1048576) :
    Calls Try.prog 22 #[v, .int .i64 left] w fun e w' => e = .returned (.int .i64 (szR (szStrs l) left)) ∧ Below w.heap.size w w' := by
  obtain ⟨a, cap, rfl, hlc, hcm, hc⟩ := hv
  unfold maxLen at hcm
  by_cases hn : left - (l.length : Int) < 0
  · rw [szR_neg (by unfold szStrs; omega)]
    clear hc
    go_enter Try.func22, Try.ntmps22
    go_wp2
    go_ret
    exact ⟨rfl, Below.refl _ _⟩
  · have HC : Hid (∀ i x, l[i]? = some x → ∃ b off, a = some ⟨b, off, none⟩ ∧ w.cell? ⟨b, off + i, none⟩ = some (.string x)) := hc
    have HS : Hid (SNames l) := hs
    clear hc hs
    have HT' : Hid (∀ k, sumB (l.take k) ≤ sumB l) := fun k => sumB_take_le l k
    go_enter Try.func22, Try.ntmps22
    go_wp2
    go_loopw [1, 5] (fun lf i w' => ∃ k s : Nat, k ≤ l.length ∧ i = .int .i64 k ∧ Hid (sumB (l.take k) = s) ∧ lf = .int .i64 (left - l.length - s) ∧ 0 ≤ left - l.length - s ∧ w' = w) (fun _ i _ => l.length - (intOf i).toNat)
    case atStart => exact ⟨0, 0, Nat.zero_le _, rfl, rfl, by simp, by simp; omega, rfl⟩
    case round =>
      obtain ⟨k, sk, hk, rfl, HQ, rfl, hge, rfl⟩ := hrel
      by_cases hlt : k < l.length
      · obtain ⟨b, off, rfl, d0⟩ := HC.out k _ (wat_get hlt)
        have HT : Hid (sumB (l.take (k + 1)) = sk + (wat l k).size) := by
          show _ = _
          rw [sumB_take_succ l k hlt, HQ.out]
        have hsk : (wat l k).size ≤ maxLen := HS.out _ (List.mem_of_getElem? (wat_get hlt))
        unfold maxLen at hsk
        clear HC HS
        generalize wat l k = t at *
        have hk0 : (0 : Int) ≤ (k : Int) := by omega
        have hk1 : (k : Int) < (l.length : Int) := by omega
        by_cases hneg : left - (l.length : Int) - (sk : Int) - ((t.size : Nat) : Int) < 0
        · go_wp2
          go_ret
          refine ⟨ret_int (szR_neg ?_).symm, Below.refl _ _⟩
          have h1 := HT.out; have h2 := HT'.out (k + 1)
          unfold szStrs; omega
        · have hge1 : 0 ≤ left - (l.length : Int) - (sk : Int) - ((t.size : Nat) : Int) := by omega
          go_wp2
          go_roundw
          case rel => exact ⟨k + 1, sk + t.size, by omega, by go_num, HT, by congr 1; omega, by omega, by first | rfl | trivial⟩
          case measure => simp [intOf]; omega
      · go_wp2
        go_ret
        refine ⟨ret_int ?_, Below.refl _ _⟩
        have h1 := HQ.out
        rw [List.take_of_length_le (by omega)] at h1
        rw [szR_pos (by unfold szStrs; omega)]
        unfold szStrs
        omega
theorem szStrs_small {l : List ByteArray} (h : szStrs l ≤ 1048576) : l.length ≤ 1048576 := by unfold szStrs at h; omega
def strRow (x : ByteArray) : List Value := [.string x]
theorem infoStrC : (Try.prog.info? 9).map (fun i => (i.zero, i.size, i.bytes)) = some (some (.string ByteArray.empty), 1, 16) := by kernel_rfl
set_option maxHeartbeats 1600000 in
theorem toStrs_own (v : Value) (l : List ByteArray) (w : World) (hv : SArg w v l) (hn : l.length ≤ 1048576) :
    Calls Try.prog 24 #[v] w fun e w' => e = .returned (.slice (some ⟨w.heap.size, 0, none⟩) l.length l.length) ∧ FilledL w w' w.heap.size l.length 1 (l.map strRow) := by
  obtain ⟨a, cap, rfl, hlc, hcm, hc⟩ := hv
  unfold maxLen at hcm
  have HC : Hid (∀ i x, l[i]? = some x → ∃ b off, a = some ⟨b, off, none⟩ ∧ w.cell? ⟨b, off + i, none⟩ = some (.string x)) := hc
  clear hc
  obtain ⟨i0, hi, hz0, hz1, hz2⟩ := info_parts infoStrC
  have hmk : ∀ w : World, (Instr.makeSlice 53 (.int .i64 (l.length : Int)) (.int .i64 (l.length : Int))).run Try.prog w = .ok (.slice (some ⟨w.heap.size, 0, none⟩) l.length l.length) (w.alloc (.cells (madeCells (Value.string ByteArray.empty).cells (l.length * 1)) 9)) := fun w => by
    have h := run_make (P := Try.prog) w 53 9 i0 _ Try.underlying53 hi hz0 .i64 .i64 l.length l.length (by omega) (by omega) (by rw [hz2]; omega) (by omega)
    rw [hz1] at h
    simpa using h
  have HM : Hid ((madeCells (Value.string ByteArray.empty).cells (l.length * 1)).size = l.length * 1) := size_madeCells _ _
  generalize madeCells (Value.string ByteArray.empty).cells (l.length * 1) = C at hmk HM
  clear hi hz0 hz1 hz2
  go_enter Try.func24, Try.ntmps24
  go_wp2
  go_loopw [4] (fun i wr => ∃ k : Nat, k ≤ l.length ∧ i = .int .i64 k ∧ FilledL w wr w.heap.size l.length 1 ((l.take k).map strRow)) (fun i _ => l.length - (intOf i).toNat)
  case atStart => exact ⟨0, Nat.zero_le _, rfl, by simpa using FilledL.start w C _ _ _ HM.out⟩
  case round =>
    obtain ⟨k, hk, rfl, hf⟩ := hrel
    by_cases hlt : k < l.length
    · obtain ⟨b, off, rfl, hc⟩ := HC.out k _ (wat_get hlt)
      have d0 := cell_keep hf.below (Nat.le_refl _) hc
      have HK : Hid (((l.take k).map strRow).length = k ∧ (l.take (k + 1)).map strRow = (l.take k).map strRow ++ [strRow (wat l k)]) := ⟨by simp; omega, by
        rw [List.take_succ_eq_append_getElem hlt, List.map_append]
        have : l[k] = wat l k := by simp [wat, hlt]
        rw [this]; rfl⟩
      clear hc HC
      generalize wat l k = t at *
      have hk0 : (0 : Int) ≤ (k : Int) := by omega
      have hk1 : (k : Int) < (l.length : Int) := by omega
      obtain ⟨⟨v0, e0⟩, f0⟩ := hf.free hlt (j := 0) (by omega)
      simp only [Nat.add_zero, Nat.mul_one] at e0 f0
      have hst := hf.store (r := strRow t) (by rw [HK.out.1]; exact hlt) rfl
      rw [HK.out.1, ← HK.out.2, Nat.mul_one] at hst
      have HST : Hid (FilledL w (wr.setCell ⟨w.heap.size, k, none⟩ (.string t)) w.heap.size l.length 1 ((l.take (k + 1)).map strRow)) := hst
      clear hst
      go_wp2
      exact ⟨⟨k + 1, by omega, by go_num, HST.out⟩, by simp [intOf]; omega⟩
    · go_wp2
      go_ret
      obtain rfl : k = l.length := by omega
      rw [List.take_length] at hf
      exact ⟨rfl, hf⟩
theorem HeldL.strs {w : World} {b n : Nat} {l : List ByteArray} (h : HeldL w b n 1 (l.map strRow)) (hn : l.length = n) (hm : n ≤ maxLen) : StrsAt w (.slice (some ⟨b, 0, none⟩) n n) l :=
  ⟨b, 0, n, by rw [hn], by omega, hm, fun i x hx => by
    have hr : (l.map strRow)[i]? = some (strRow x) := by rw [List.getElem?_map, hx]; rfl
    simpa using h.cell hr (j := 0) (v := .string x) rfl⟩
set_option maxHeartbeats 1600000 in
theorem eqStrs_any (v v' : Value) (l : List ByteArray) (w : World) (hv : SArg w v l) (hv' : SArg w v' l) :
    Calls Try.prog 27 #[v, v'] w fun e w' => e = .returned (.bool true) ∧ Below w.heap.size w w' := by
  obtain ⟨a, cap, rfl, hlc, hcm, hc⟩ := hv
  obtain ⟨a', cap', rfl, hlc', hcm', hc'⟩ := hv'
  unfold maxLen at hcm hcm'
  have HC : Hid (∀ i x, l[i]? = some x → ∃ b off, a = some ⟨b, off, none⟩ ∧ w.cell? ⟨b, off + i, none⟩ = some (.string x)) := hc
  have HC' : Hid (∀ i x, l[i]? = some x → ∃ b off, a' = some ⟨b, off, none⟩ ∧ w.cell? ⟨b, off + i, none⟩ = some (.string x)) := hc'
  clear hc hc'
  go_enter Try.func27, Try.ntmps27
  go_wp2
  go_loopw [5] (fun i w' => ∃ k : Nat, k ≤ l.length ∧ i = .int .i64 k ∧ Hid (Below w.heap.size w w')) (fun i _ => l.length - (intOf i).toNat)
  case atStart => exact ⟨0, Nat.zero_le _, rfl, Below.refl _ _⟩
  case round =>
    obtain ⟨k, hk, rfl, HB⟩ := hrel
    by_cases hlt : k < l.length
    · obtain ⟨b, o, rfl, d0⟩ := HC.out k _ (wat_get hlt)
      obtain ⟨b', o', rfl, d0'⟩ := HC'.out k _ (wat_get hlt)
      have c0 := cell_keep HB.out (Nat.le_refl _) d0
      have c1 := cell_keep HB.out (Nat.le_refl _) d0'
      have z0 := lt_of_cell c0
      have z1 := lt_of_cell c1
      have hk0 : (0 : Int) ≤ (k : Int) := by omega
      have hk1 : (k : Int) < (l.length : Int) := by omega
      clear d0 d0'
      generalize wat l k = t at *
      have ht : (t.toList != t.toList) = false := by simp
      have hne := Later.some wr
      go_wp2
      refine wp_region_later (by kernel_rfl) (by kernel_rfl) ?_
      repeat (go_big_quiet_step (fail))
      refine wpQuiet_nil ?_
      rintro _ ⟨x, rfl⟩
      have HB2 : Hid (Below w.heap.size w x.val) := below_step HB.out x.below
      go_wp2
      exact ⟨⟨k + 1, by omega, by go_num, HB2⟩, by simp [intOf]; omega⟩
    · go_wp2
      go_ret
      exact ⟨rfl, HB.out⟩
set_option maxHeartbeats 1600000 in
theorem markStrs_any (b n cap k : Nat) (w : World) (hb : b < w.heap.size) (ht : w.there b 0 n) (hn : n ≤ 1048576) (hk : k ≤ 1000000000) :
    Calls Try.prog 29 #[.slice (some ⟨b, 0, none⟩) n cap, .int .i64 k] w fun e w' => e = .returned (.int .i64 ((k + n : Nat) : Int)) ∧ w.grownBy w' (some b) := by
  have HT : Hid (w.there b 0 n) := ht
  clear ht
  go_enter Try.func29, Try.ntmps29
  go_wp2
  go_loopw [1, 5] (fun kk i wr => ∃ m : Nat, m ≤ n ∧ i = .int .i64 m ∧ kk = .int .i64 ((k : Int) + (m : Int)) ∧ MarkAt w wr b n (fun q => .string (mkT (k + q))) m) (fun _ i _ => n - (intOf i).toNat)
  case atStart => exact ⟨0, Nat.zero_le _, rfl, by simp, MarkAt.start _ HT.out hb⟩
  case round =>
    obtain ⟨m, hm, rfl, rfl, hM⟩ := hrel
    have HM0 : Hid (MarkAt w wr b n (fun q => .string (mkT (k + q))) m) := hM
    clear hM
    by_cases hlt : m < n
    · have hm0 : (0 : Int) ≤ (m : Int) := by omega
      have hm1 : (m : Int) < (n : Int) := by omega
      have GT0 : Hid (∀ wx : World, Calls Try.prog 67 #[.int .i64 ((k : Int) + (m : Int))] wx fun e w' => e = .returned (.string (mkT (k + m))) ∧ Below wx.heap.size wx w') := fun wx => by
        have h := markText_any (k + m) (by omega) wx
        rw [show ((k + m : Nat) : Int) = (k : Int) + (m : Int) by push_cast; omega] at h
        exact h
      go_wp2_with fail
      refine (GT0.out _).mono ?_
      rintro e w1 ⟨rfl, hb1⟩
      have HM1 := toHid (HM0.out.call hb1)
      obtain ⟨⟨v0, c0⟩, f0⟩ := HM1.out.free m hlt
      have HN := toHid (HM1.out.set hlt (v := .string (mkT (k + m))) rfl)
      go_wp2
      exact ⟨⟨m + 1, by omega, by go_num, by first | (congr 1; done) | (congr 1; push_cast; omega), HN.out⟩, by simp [intOf]; omega⟩
    · have HF : Hid (m = n) := by show m = n; omega
      go_wp2
      go_ret
      have h := HM0.out
      rw [HF.out] at h ⊢
      exact ⟨ret_int (by push_cast; rfl), h.grown⟩
end Go.Proofs.Ytfjblenkcfdbiaa
