/-
  Joined: Form3, Form4, Form5, Form6.
-/
import Derived.Test.YtibpkhmiahamcaaGreatDoorForm2
import Derived.Lib.LaidTab

/-
  The words of what is said: impl's table, and the specification's list.
-/
namespace Go.Proofs.YtibpkhmiahamcaaGreatDoor
open Go.RowKit

def wKind : ByteArray := ⟨#[107, 105, 110, 100]⟩
def wTime : ByteArray := ⟨#[116, 105, 109, 101]⟩
def wLevel : ByteArray := ⟨#[108, 101, 118, 101, 108]⟩
def wRoute : ByteArray := ⟨#[114, 111, 117, 116, 101]⟩
def wState : ByteArray := ⟨#[115, 116, 97, 116, 101]⟩
def wordAt : Nat → ByteArray
  | 0 => wKind
  | 1 => wTime
  | 2 => wLevel
  | 3 => wRoute
  | 4 => wState
  | _ => ⟨#[]⟩
/-- The word of what is said; nothing for what isn't on the table. -/
def wordS (what : Int) : ByteArray := if 1 ≤ what then wordAt (what - 1).toNat else ⟨#[]⟩
theorem wordS_at (k : Nat) : wordS ((k : Int) + 1) = wordAt k := by
  unfold wordS
  rw [if_pos (by omega), show ((k : Int) + 1 - 1).toNat = k by omega]
theorem wordS_none {what : Int} (h : inB what 1 5 = false) : wordS what = ⟨#[]⟩ := by
  unfold wordS
  split
  · have : ¬ what ≤ 5 := by simp [inB] at h; omega
    obtain ⟨k, hk⟩ : ∃ k, (what - 1).toNat = k + 5 := ⟨(what - 1).toNat - 5, by omega⟩
    rw [hk]; rfl
  · rfl

/-- What the table holds, cell by cell. -/
def saidC : Array Value := #[.int .i64 1, .string wKind, .int .i64 2, .string wTime, .int .i64 3, .string wLevel, .int .i64 4, .string wRoute, .int .i64 5, .string wState]
/-- The package's table lies in w. -/
def SaidIn (w : World) : Prop := ∃ t fr, w.heap[0]? = some (.cells saidC t fr)
theorem SaidIn.lt {w : World} (h : SaidIn w) : 0 < w.heap.size := by
  obtain ⟨t, fr, h⟩ := h
  exact (Array.getElem?_eq_some_iff.1 h).1
theorem SaidIn.keep {w w' : World} (h : SaidIn w) (hb : Below w.heap.size w w') : SaidIn w' := by
  have hl := h.lt
  obtain ⟨t, fr, h⟩ := h
  exact ⟨t, fr, by rw [hb.block _ hl]; exact h⟩

theorem idx0 (w : World) : (Instr.index 105 (.agg saidC) (.int .i64 0)).run Tryz.prog w = .ok (.agg #[.int .i64 1, .string wKind]) w := by kernel_rfl
theorem idx1 (w : World) : (Instr.index 105 (.agg saidC) (.int .i64 1)).run Tryz.prog w = .ok (.agg #[.int .i64 2, .string wTime]) w := by kernel_rfl
theorem idx2 (w : World) : (Instr.index 105 (.agg saidC) (.int .i64 2)).run Tryz.prog w = .ok (.agg #[.int .i64 3, .string wLevel]) w := by kernel_rfl
theorem idx3 (w : World) : (Instr.index 105 (.agg saidC) (.int .i64 3)).run Tryz.prog w = .ok (.agg #[.int .i64 4, .string wRoute]) w := by kernel_rfl
theorem idx4 (w : World) : (Instr.index 105 (.agg saidC) (.int .i64 4)).run Tryz.prog w = .ok (.agg #[.int .i64 5, .string wState]) w := by kernel_rfl
theorem idx (k : Nat) (hk : k < 5) (w : World) : (Instr.index 105 (.agg saidC) (.int .i64 (k : Int))).run Tryz.prog w = .ok (.agg #[.int .i64 ((k : Int) + 1), .string (wordAt k)]) w := by
  have : k = 0 ∨ k = 1 ∨ k = 2 ∨ k = 3 ∨ k = 4 := by omega
  rcases this with rfl | rfl | rfl | rfl | rfl
  · exact idx0 w
  · exact idx1 w
  · exact idx2 w
  · exact idx3 w
  · exact idx4 w

set_option maxHeartbeats 800000 in
theorem wordOf_any (what : Int) (w : World) (hs : SaidIn w) :
    Calls Tryz.prog 26 #[.int .i64 what] w fun e w' => e = .returned (.tuple #[.string (wordS what), .bool (inB what 1 5)]) ∧ Below w.heap.size w w' := by
  obtain ⟨tt, fr, hg⟩ := hs
  go_enter Tryz.func26, Tryz.ntmps26
  go_wp2_with (refine wpList_load_row rfl 105 _ rfl 0 rfl tt saidC fr _ hg Tryz.underlying105 rfl (by kernel_rfl) ?_)
  go_loopw [5, 7] (fun _ i wr => ∃ k : Nat, k ≤ 5 ∧ i = .int .i64 k ∧ Below w.heap.size w wr ∧ Hid (∀ j : Nat, j < k → ¬ what = (j : Int) + 1)) (fun _ i _ => 5 - (intOf i).toNat)
  case atStart => exact ⟨0, Nat.zero_le _, rfl, Below.refl _ _, fun j hj => absurd hj (Nat.not_lt_zero _)⟩
  case round =>
    obtain ⟨k, hk, rfl, hb, HA⟩ := hrel
    by_cases hlt : k < 5
    · have hi := idx k hlt
      have hk5 : (k : Int) < 5 := by omega
      by_cases hw : what = (k : Int) + 1
      · have h1 : ((k : Int) + 1 == what) = true := by simp [hw]
        have HW : Hid (what = (k : Int) + 1) := hw
        clear hw
        go_wp2
        go_ret2
        have e1 : inB what 1 5 = true := by have := HW.out; simp [inB]; omega
        have e2 : wordS what = wordAt k := by rw [HW.out]; exact wordS_at k
        rw [e1, e2]
        exact ⟨rfl, hb.alloc hb.size _⟩
      · have h1 : ((k : Int) + 1 == what) = false := by simp; omega
        have HW : Hid (¬ what = (k : Int) + 1) := hw
        clear hw
        go_wp2
        exact ⟨⟨k + 1, by omega, by go_num, hb.alloc hb.size _, fun j hj => if e : j = k then by rw [e]; exact HW.out else HA.out j (by omega)⟩, by simp [intOf]; omega⟩
    · have hk5 : ¬ (k : Int) < 5 := by omega
      have e1 : inB what 1 5 = false := by
        have h0 := HA.out 0 (by omega); have h1 := HA.out 1 (by omega); have h2 := HA.out 2 (by omega); have h3 := HA.out 3 (by omega); have h4 := HA.out 4 (by omega)
        simp [inB]; omega
      have H1 : Hid (inB what 1 5 = false) := e1
      have H2 : Hid (wordS what = ⟨#[]⟩) := wordS_none e1
      clear e1
      go_wp2
      go_ret2
      rw [H1.out, H2.out]
      exact ⟨rfl, hb⟩

set_option maxHeartbeats 400000 in
theorem l2Words_any (w : World) :
    Calls Tryz.prog 36 #[] w fun e w' => e = .returned (.slice (some ⟨w.heap.size, 0, none⟩) 5 5) ∧ w' = w.alloc (.cells #[.string wKind, .string wTime, .string wLevel, .string wRoute, .string wState] 9) := by
  go_enter Tryz.func36, Tryz.ntmps36
  go_wp2
  go_ret
  exact ⟨rfl, rfl⟩
end Go.Proofs.YtibpkhmiahamcaaGreatDoor

/-
  impl: PlanForm.
-/
namespace Go.Proofs.YtibpkhmiahamcaaGreatDoor
open Go.RowKit
attribute [local go_sem] Later.cell Later.frozen

/-- One text behind the other. -/
def cat (a b : ByteArray) : ByteArray := a ++ b
theorem cat_size (a b : ByteArray) : (cat a b).size = a.size + b.size := by unfold cat; exact ByteArray.size_append
/-- Far from the greatest size. -/
def Small (s : ByteArray) : Prop := s.size ≤ 4611686018427387903
theorem add_small (P : Program) (a b : ByteArray) (w : World) (ha : Small a) (hb : Small b) : (Op.stringOp .add a b).run P w = .ok (.string (cat a b)) w := by
  unfold Small at ha hb
  exact run_string_add_sum w a b (by omega)

theorem grow_below (w : World) (k : Nat) (os : Array Obj) : Below w.heap.size w (Sort.grow (w.drewN k) os) :=
  ⟨rfl, rfl, rfl, by simp [Sort.grow], fun i hi => by simp [Sort.grow, Array.getElem?_append_left hi]⟩
theorem itoa_any (n : Int) (h0 : 0 ≤ n) (h1 : n ≤ 9223372036854775807) (w : World) (ht : Lib.TabIs Tryz.prog w "internal/strconv.uint64pow10" .u64 Lib.pow10Tab) :
    Calls Tryz.prog 30 #[.int .i64 n] w fun e w' => e = .returned (.string (decS n.toNat)) ∧ Below w.heap.size w w' := by
  refine (Tryz.strconv_Itoa n (by omega) h1 w ht).mono ?_
  rintro e w' ⟨rfl, k, os, rfl⟩
  refine ⟨ret_str ?_, grow_below w k os⟩
  obtain ⟨m, rfl⟩ := Int.eq_ofNat_of_zero_le h0
  rw [Lib.itoa_nonneg, Int.toNat_natCast]; rfl
theorem gPow : Tryz.prog.globalNamed "internal/strconv.uint64pow10" = some 2 := by kernel_rfl
theorem tab_keep {w w' : World} (h : Lib.TabIs Tryz.prog w "internal/strconv.uint64pow10" .u64 Lib.pow10Tab) (hb : Below w.heap.size w w') : Lib.TabIs Tryz.prog w' "internal/strconv.uint64pow10" .u64 Lib.pow10Tab := by
  have hc := h.cell gPow 0 (by decide)
  exact var?_below hb gPow (lt_of_cell hc) h

def sSet : ByteArray := ⟨#[115, 101, 116, 32]⟩
def sSp : ByteArray := ⟨#[32]⟩

/-- It has a form. -/
def formB (c : Chg) : Bool := inB c.what 1 5 && (nameB c.f && (inB c.num 1 1000000 && valB c.v))
/-- The form. -/
def formS (c : Chg) : ByteArray := cat (cat (cat (cat (cat (cat (cat sSet c.f) sSp) (wordS c.what)) sSp) (decS c.num.toNat)) sSp) c.v

structure Smalls (c : Chg) : Prop where
  s0 : Small sSet
  s1 : Small c.f
  s2 : Small (cat sSet c.f)
  s3 : Small sSp
  s4 : Small (cat (cat sSet c.f) sSp)
  s5 : Small (wordS c.what)
  s6 : Small (cat (cat (cat sSet c.f) sSp) (wordS c.what))
  s7 : Small (cat (cat (cat (cat sSet c.f) sSp) (wordS c.what)) sSp)
  s8 : Small (decS c.num.toNat)
  s9 : Small (cat (cat (cat (cat (cat sSet c.f) sSp) (wordS c.what)) sSp) (decS c.num.toNat))
  sA : Small (cat (cat (cat (cat (cat (cat sSet c.f) sSp) (wordS c.what)) sSp) (decS c.num.toNat)) sSp)
  sB : Small c.v
theorem word_le (k : Nat) : (wordAt k).size ≤ 5 := by
  match k with
  | 0 | 1 | 2 | 3 | 4 => decide
  | k + 5 => exact Nat.zero_le _
theorem wordS_le (what : Int) : (wordS what).size ≤ 5 := by
  unfold wordS; split
  · exact word_le _
  · exact Nat.zero_le _
theorem Smalls.of (c : Chg) (hf : c.f.size ≤ 1048576) (hv : c.v.size ≤ 1048576) (hn : inB c.num 1 1000000 = true) : Smalls c := by
  have h1 : sSet.size = 4 := rfl
  have h2 : sSp.size = 1 := rfl
  have h3 := wordS_le c.what
  have h4 := decS_size c.num.toNat (by simp [inB] at hn; omega)
  constructor <;> unfold Small <;> (try simp only [cat_size]) <;> omega

set_option maxHeartbeats 1600000 in
theorem planForm_any (c : Chg) (w : World) (hs : SaidIn w) (ht : Lib.TabIs Tryz.prog w "internal/strconv.uint64pow10" .u64 Lib.pow10Tab) (hf : c.f.size ≤ 1048576) (hv : c.v.size ≤ 1048576) :
    Calls Tryz.prog 8 #[.agg #[.string c.f, .int .i64 c.what, .int .i64 c.num, .string c.v]] w fun e w' => e = .returned (.string (bif formB c then formS c else ⟨#[]⟩)) ∧ Below w.heap.size w w' := by
  have hfm : c.f.size ≤ maxLen := by unfold maxLen; omega
  have HS : Hid (SaidIn w) := hs
  have HT : Hid (Lib.TabIs Tryz.prog w "internal/strconv.uint64pow10" .u64 Lib.pow10Tab) := ht
  have HSM : Hid (inB c.num 1 1000000 = true → Smalls c) := Smalls.of c hf hv
  clear hs ht hf hv
  obtain ⟨f, what, num, v⟩ := c
  dsimp only at hfm ⊢
  cases hk : inB what 1 5
  · have e : (bif formB ⟨f, what, num, v⟩ then formS ⟨f, what, num, v⟩ else ⟨#[]⟩) = ⟨#[]⟩ := by simp [formB, hk]
    have HK : Hid (inB what 1 5 = false) := hk
    rw [e]; clear e hk
    go_enter Tryz.func8, Tryz.ntmps8
    go_wp2_with fail
    refine (wordOf_any _ _ (HS.out.keep ((Below.refl _ _).alloc (Nat.le_refl _) _))).mono ?_
    rw [HK.out]
    rintro e w1 ⟨rfl, hb1⟩
    go_wp2
    go_ret
    exact ⟨rfl, below_step ((Below.refl _ _).alloc (Nat.le_refl _) _) hb1⟩
  have HK : Hid (inB what 1 5 = true) := hk
  clear hk
  cases hn : nameB f
  · have e : (bif formB ⟨f, what, num, v⟩ then formS ⟨f, what, num, v⟩ else ⟨#[]⟩) = ⟨#[]⟩ := by simp [formB, hn]
    have HN : Hid (nameB f = false) := hn
    rw [e]; clear e hn
    go_enter Tryz.func8, Tryz.ntmps8
    go_wp2_with fail
    refine (wordOf_any _ _ (HS.out.keep ((Below.refl _ _).alloc (Nat.le_refl _) _))).mono ?_
    rw [HK.out]
    rintro e w1 ⟨rfl, hb1⟩
    have c0 : w1.cell? ⟨w.heap.size, 0, none⟩ = some (.string f) := cell_keep hb1 (Nat.le_refl _) (by simp [go_sem])
    have hbw := below_step ((Below.refl _ _).alloc (Nat.le_refl _) _) hb1
    go_wp2_with fail
    refine (nameOk_any f _ hfm).mono ?_
    rw [HN.out]
    rintro e w2 ⟨rfl, hb2⟩
    go_wp2
    go_ret
    exact ⟨rfl, below_step hbw hb2⟩
  have HN : Hid (nameB f = true) := hn
  clear hn
  cases hu : inB num 1 1000000
  · have e : (bif formB ⟨f, what, num, v⟩ then formS ⟨f, what, num, v⟩ else ⟨#[]⟩) = ⟨#[]⟩ := by simp [formB, hu]
    have HU : Hid (inB num 1 1000000 = false) := hu
    rw [e]; clear e hu
    go_enter Tryz.func8, Tryz.ntmps8
    go_wp2_with fail
    refine (wordOf_any _ _ (HS.out.keep ((Below.refl _ _).alloc (Nat.le_refl _) _))).mono ?_
    rw [HK.out]
    rintro e w1 ⟨rfl, hb1⟩
    have c0 : w1.cell? ⟨w.heap.size, 0, none⟩ = some (.string f) := cell_keep hb1 (Nat.le_refl _) (by simp [go_sem])
    have c2 : w1.cell? ⟨w.heap.size, 2, none⟩ = some (.int .i64 num) := cell_keep hb1 (Nat.le_refl _) (by simp [go_sem])
    have hbw := below_step ((Below.refl _ _).alloc (Nat.le_refl _) _) hb1
    go_wp2_with fail
    refine (nameOk_any f _ hfm).mono ?_
    rw [HN.out]
    rintro e w2 ⟨rfl, hb2⟩
    have d0 := cell_keep hb2 (Nat.le_refl _) c0
    have d2 := cell_keep hb2 (Nat.le_refl _) c2
    go_wp2_with fail
    refine (numberOk_any _ _).mono ?_
    rw [HU.out]
    rintro e w3 ⟨rfl, rfl⟩
    go_wp2
    go_ret
    exact ⟨rfl, below_step hbw hb2⟩
  have SM := HSM.out hu
  have HU : Hid (inB num 1 1000000 = true) := hu
  have hn0 : 0 ≤ num := by simp [inB] at hu; omega
  have hn1 : num ≤ 9223372036854775807 := by simp [inB] at hu; omega
  clear hu
  cases hval : valB v
  · have e : (bif formB ⟨f, what, num, v⟩ then formS ⟨f, what, num, v⟩ else ⟨#[]⟩) = ⟨#[]⟩ := by simp [formB, hval]
    have HV : Hid (valB v = false) := hval
    rw [e]; clear e hval
    go_enter Tryz.func8, Tryz.ntmps8
    go_wp2_with fail
    refine (wordOf_any _ _ (HS.out.keep ((Below.refl _ _).alloc (Nat.le_refl _) _))).mono ?_
    rw [HK.out]
    rintro e w1 ⟨rfl, hb1⟩
    have c0 : w1.cell? ⟨w.heap.size, 0, none⟩ = some (.string f) := cell_keep hb1 (Nat.le_refl _) (by simp [go_sem])
    have c2 : w1.cell? ⟨w.heap.size, 2, none⟩ = some (.int .i64 num) := cell_keep hb1 (Nat.le_refl _) (by simp [go_sem])
    have c3 : w1.cell? ⟨w.heap.size, 3, none⟩ = some (.string v) := cell_keep hb1 (Nat.le_refl _) (by simp [go_sem])
    have hbw := below_step ((Below.refl _ _).alloc (Nat.le_refl _) _) hb1
    go_wp2_with fail
    refine (nameOk_any f _ hfm).mono ?_
    rw [HN.out]
    rintro e w2 ⟨rfl, hb2⟩
    have d0 := cell_keep hb2 (Nat.le_refl _) c0
    have d2 := cell_keep hb2 (Nat.le_refl _) c2
    have d3 := cell_keep hb2 (Nat.le_refl _) c3
    go_wp2_with fail
    refine (numberOk_any _ _).mono ?_
    rw [HU.out]
    rintro e w3 ⟨rfl, rfl⟩
    go_wp2_with fail
    refine (valueHasForm_any _ _).mono ?_
    rw [HV.out]
    rintro e w3 ⟨rfl, rfl⟩
    go_wp2
    go_ret
    exact ⟨rfl, below_step hbw hb2⟩
  · have e : (bif formB ⟨f, what, num, v⟩ then formS ⟨f, what, num, v⟩ else ⟨#[]⟩) = formS ⟨f, what, num, v⟩ := by simp [formB, hval, HK.out, HN.out, HU.out]
    have HV : Hid (valB v = true) := hval
    rw [e]; clear e hval
    have hadd := add_small Tryz.prog
    obtain ⟨s0, s1, s2, s3, s4, s5, s6, s7, s8, s9, sA, sB⟩ := SM
    dsimp only at s1 s2 s4 s5 s6 s7 s8 s9 sA sB
    have HF : Hid (formS ⟨f, what, num, v⟩ = cat (cat (cat (cat (cat (cat (cat sSet f) sSp) (wordS what)) sSp) (decS num.toNat)) sSp) v) := rfl
    go_enter Tryz.func8, Tryz.ntmps8
    go_wp2_with fail
    refine (wordOf_any _ _ (HS.out.keep ((Below.refl _ _).alloc (Nat.le_refl _) _))).mono ?_
    rw [HK.out]
    rintro e w1 ⟨rfl, hb1⟩
    have c0 : w1.cell? ⟨w.heap.size, 0, none⟩ = some (.string f) := cell_keep hb1 (Nat.le_refl _) (by simp [go_sem])
    have c2 : w1.cell? ⟨w.heap.size, 2, none⟩ = some (.int .i64 num) := cell_keep hb1 (Nat.le_refl _) (by simp [go_sem])
    have c3 : w1.cell? ⟨w.heap.size, 3, none⟩ = some (.string v) := cell_keep hb1 (Nat.le_refl _) (by simp [go_sem])
    have hbw := below_step ((Below.refl _ _).alloc (Nat.le_refl _) _) hb1
    go_wp2_with fail
    refine (nameOk_any f _ hfm).mono ?_
    rw [HN.out]
    rintro e w2 ⟨rfl, hb2⟩
    have d0 := cell_keep hb2 (Nat.le_refl _) c0
    have d2 := cell_keep hb2 (Nat.le_refl _) c2
    have d3 := cell_keep hb2 (Nat.le_refl _) c3
    have hbl : w.heap.size < w2.heap.size := lt_of_cell d0
    have HB2 : Hid (Below w.heap.size w w2) := below_step hbw hb2
    clear c0 c2 c3 hb1 hb2 hbw
    go_wp2_with fail
    refine (numberOk_any _ _).mono ?_
    rw [HU.out]
    rintro e w3 ⟨rfl, rfl⟩
    go_wp2_with fail
    refine (valueHasForm_any _ _).mono ?_
    rw [HV.out]
    rintro e w3 ⟨rfl, rfl⟩
    go_wp2
    have hne := Later.some w3
    have GO : Hid (∀ x : Later w3, Calls Tryz.prog 30 #[.int .i64 num] x.val fun e w'' => e = .returned (.string (decS num.toNat)) ∧ ∃ y : Later w3, w'' = y.val) :=
      fun x => Calls.later (itoa_any num hn0 hn1 x.val (tab_keep HT.out (below_step HB2.out x.below)))
    simp only [sSet, sSp] at s0 s2 s3 s4 s6 s7 s9 sA
    refine wp_region_later (by kernel_rfl) (by kernel_rfl) ?_
    repeat (go_big_quiet_step (exact GO.out _))
    refine wpQuiet_nil ?_
    rintro _ ⟨x, rfl⟩
    go_wp2
    go_ret
    exact ⟨rfl, below_step HB2.out x.below⟩
end Go.Proofs.YtibpkhmiahamcaaGreatDoor

/-
  The specification's PlanForm.
-/
namespace Go.Proofs.YtibpkhmiahamcaaGreatDoor
open Go.RowKit
set_option linter.unusedSimpArgs false
attribute [local go_sem] Later.cell Later.frozen

theorem wpOp_weaken {P : Program} {ops : Array Oper} {Q : Exit → Act → World → Prop} {i : Nat} {K K' : Act → World → Prop} {a : Act} {w : World} (h : ∀ a w, K a w → K' a w) (hh : wpOp P ops Q i K a w) : wpOp P ops Q i K' a w := by
  exact wpOp_mono h hh
/-- More may be asked of the worlds on the way. -/
theorem wpAnyH_more {P : Program} {md : Region.Mode} {ops : Array Oper} {Q : Exit → Act → World → Prop} {S T : World → Prop} (hT : ∀ w, T w → S w) : ∀ (fuel : Nat) (listed : Array Bool) (a : Act) (w : World), wpAnyH P md ops Q T fuel listed a w → wpAnyH P md ops Q S fuel listed a w
  | 0, _, _, _, h => h
  | fuel + 1, _, _, _, h => ⟨h.1, fun i hi => wpOp_weaken (fun a' w' hh => ⟨hT _ hh.1, wpAnyH_more hT fuel _ a' w' hh.2⟩) (h.2 i hi)⟩

set_option maxRecDepth 100000 in
set_option maxHeartbeats 1600000 in
theorem specForm_ok (c : Chg) (w : World) (hf : c.f.size ≤ 1048576) (hv : c.v.size ≤ 1048576) (hok : formB c = true) :
    Calls Tryz.prog 10 #[.agg #[.string c.f, .int .i64 c.what, .int .i64 c.num, .string c.v]] w fun e w' => e = .returned (.string (formS c)) ∧ Below w.heap.size w w' := by
  have hfm : c.f.size ≤ maxLen := by unfold maxLen; omega
  have hvm : c.v.size ≤ maxLen := by unfold maxLen; omega
  simp only [formB, Bool.and_eq_true] at hok
  obtain ⟨hk, hn, hu, hval⟩ := hok
  have SM := Smalls.of c hf hv hu
  obtain ⟨f, what, num, v⟩ := c
  dsimp only at hfm hvm hk hn hu hval
  have HK : Hid (inB what 1 5 = true) := hk
  have HN : Hid (nameB f = true) := hn
  have HU : Hid (inB num 1 1000000 = true) := hu
  simp only [valB, Bool.and_eq_true, Bool.not_eq_true'] at hval
  obtain ⟨hv1, hv2⟩ := hval
  have HV : Hid (oddB v = false) := hv2
  have hn0 : 0 ≤ num := by simp [inB] at hu; omega
  obtain ⟨m, rfl⟩ := Int.eq_ofNat_of_zero_le hn0
  have hm : m ≤ 9999999 := by simp [inB] at hu; omega
  obtain ⟨q, rfl, hq⟩ : ∃ q : Nat, what = (q : Int) + 1 ∧ q < 5 := ⟨(what - 1).toNat, by simp [inB] at hk; omega, by simp [inB] at hk; omega⟩
  clear hk hn hu hv2 hf hv
  have hadd := add_small Tryz.prog
  obtain ⟨s0, s1, s2, s3, s4, s5, s6, s7, s8, s9, sA, sB⟩ := SM
  dsimp only at s1 s2 s4 s5 s6 s7 s8 s9 sA sB
  have HF : Hid (formS ⟨f, (q : Int) + 1, (m : Int), v⟩ = cat (cat (cat (cat (cat (cat (cat sSet f) sSp) (wordAt q)) sSp) (decS m)) sSp) v) := by
    show formS _ = _
    unfold formS; rw [wordS_at]; rfl
  rw [HF.out]
  rw [wordS_at] at s5 s6 s7 s9 sA
  rw [Int.toNat_natCast] at s8 s9 sA
  simp only [sSet, sSp] at s0 s2 s3 s4 s6 s7 s9 sA
  go_enter Tryz.func10, Tryz.ntmps10
  go_wp2_with fail
  refine (l1NameOk_any f _ hfm).mono ?_
  rw [HN.out]
  rintro e w1 ⟨rfl, rfl⟩
  go_wp2_with fail
  refine (l1In_any _ _ _ _).mono ?_
  rw [HU.out]
  rintro e w1 ⟨rfl, rfl⟩
  go_wp2_with fail
  refine (l1In_any _ _ _ _).mono ?_
  rw [HK.out]
  rintro e w1 ⟨rfl, rfl⟩
  go_wp2_with fail
  refine (l2Odd_any v _ hvm).mono ?_
  rw [HV.out]
  rintro e w1 ⟨rfl, rfl⟩
  go_wp2
  generalize hW : w.alloc (.cells #[.string f, .int .i64 ((q : Int) + 1), .int .i64 (m : Int), .string v] 28) = W
  have c0 : W.cell? ⟨w.heap.size, 0, none⟩ = some (.string f) := by rw [← hW]; simp [go_sem]
  have c1 : W.cell? ⟨w.heap.size, 1, none⟩ = some (.int .i64 ((q : Int) + 1)) := by rw [← hW]; simp [go_sem]
  have c2 : W.cell? ⟨w.heap.size, 2, none⟩ = some (.int .i64 (m : Int)) := by rw [← hW]; simp [go_sem]
  have c3 : W.cell? ⟨w.heap.size, 3, none⟩ = some (.string v) := by rw [← hW]; simp [go_sem]
  have HW : Hid (Below w.heap.size w W) := by rw [← hW]; exact (Below.refl _ _).alloc (Nat.le_refl _) _
  clear hW
  refine wp_region_noPanic ?_
  refine wp_region_held_drew (S := fun w' => w'.cell? ⟨w.heap.size, 0, none⟩ = some (.string f) ∧ w'.cell? ⟨w.heap.size, 1, none⟩ = some (.int .i64 ((q : Int) + 1)) ∧ w'.cell? ⟨w.heap.size, 2, none⟩ = some (.int .i64 (m : Int)) ∧ w'.cell? ⟨w.heap.size, 3, none⟩ = some (.string v)) (by kernel_rfl) ?_ (fun hHeld => ?_)
  · exact ⟨by simpa using c0, by simpa using c1, by simpa using c2, by simpa using c3⟩
  refine wpAnyH_take (i := 0) (v := ?_) rfl (by kernel_rfl) (by kernel_rfl) (by kernel_rfl) (fun _ _ _ h => h) (Or.inl ⟨by rfl, ?_⟩) (by assumption) ?_
  rotate_left
  · intro w hSw; (try dsimp only at hSw); go_simp; try with_reducible rfl
  simp only [Act.put, List.setIfInBounds_toArray, List.set_cons_zero, List.set_cons_succ, List.getElem_toArray, List.getElem_cons_succ, List.getElem_cons_zero]
  refine wpAnyH_take (i := 1) (v := ?_) rfl (by kernel_rfl) (by kernel_rfl) (by kernel_rfl) (fun _ _ _ h => h) (Or.inl ⟨by rfl, ?_⟩) (by assumption) ?_
  rotate_left
  · intro w hSw; (try dsimp only at hSw); go_simp; try with_reducible rfl
  simp only [Act.put, List.setIfInBounds_toArray, List.set_cons_zero, List.set_cons_succ, List.getElem_toArray, List.getElem_cons_succ, List.getElem_cons_zero]
  refine wpAnyH_take (i := 2) (v := ?_) rfl (by kernel_rfl) (by kernel_rfl) (by kernel_rfl) (fun _ _ _ h => h) (Or.inl ⟨by rfl, ?_⟩) (by assumption) ?_
  rotate_left
  · intro w hSw; (try dsimp only at hSw); go_simp; try with_reducible rfl
  simp only [Act.put, List.setIfInBounds_toArray, List.set_cons_zero, List.set_cons_succ, List.getElem_toArray, List.getElem_cons_succ, List.getElem_cons_zero]
  refine wpAnyH_take (i := 3) (v := ?_) rfl (by kernel_rfl) (by kernel_rfl) (by kernel_rfl) (fun _ _ _ h => h) (Or.inl ⟨by rfl, ?_⟩) (by assumption) ?_
  rotate_left
  · intro w hSw; (try dsimp only at hSw); go_simp; try with_reducible rfl
  simp only [Act.put, List.setIfInBounds_toArray, List.set_cons_zero, List.set_cons_succ, List.getElem_toArray, List.getElem_cons_succ, List.getElem_cons_zero]
  refine wpAnyH_take (i := 5) (v := ?_) rfl (by kernel_rfl) (by kernel_rfl) (by kernel_rfl) (fun _ _ _ h => h) (Or.inl ⟨by rfl, ?_⟩) (by assumption) ?_
  rotate_left
  · intro w hSw; (try dsimp only at hSw); go_simp; try with_reducible rfl
  simp only [Act.put, List.setIfInBounds_toArray, List.set_cons_zero, List.set_cons_succ, List.getElem_toArray, List.getElem_cons_succ, List.getElem_cons_zero]
  refine wpAnyH_take (i := 6) (v := ?_) rfl (by kernel_rfl) (by kernel_rfl) (by kernel_rfl) (fun _ _ _ h => h) (Or.inl ⟨by rfl, ?_⟩) (by assumption) ?_
  rotate_left
  · intro w hSw; (try dsimp only at hSw); go_simp; try with_reducible rfl
  simp only [Act.put, List.setIfInBounds_toArray, List.set_cons_zero, List.set_cons_succ, List.getElem_toArray, List.getElem_cons_succ, List.getElem_cons_zero]
  refine wpAnyH_take (i := 7) (v := ?_) rfl (by kernel_rfl) (by kernel_rfl) (by kernel_rfl) (fun _ _ _ h => h) (Or.inl ⟨by rfl, ?_⟩) (by assumption) ?_
  rotate_left
  · intro w hSw; (try dsimp only at hSw); go_simp; try with_reducible rfl
  simp only [Act.put, List.setIfInBounds_toArray, List.set_cons_zero, List.set_cons_succ, List.getElem_toArray, List.getElem_cons_succ, List.getElem_cons_zero]
  refine wpAnyH_take (i := 12) (v := ?_) rfl (by kernel_rfl) (by kernel_rfl) (by kernel_rfl) (fun _ _ _ h => h) (Or.inl ⟨by rfl, ?_⟩) (by assumption) ?_
  rotate_left
  · intro w hSw; (try dsimp only at hSw); go_simp; try with_reducible rfl
  simp only [Act.put, List.setIfInBounds_toArray, List.set_cons_zero, List.set_cons_succ, List.getElem_toArray, List.getElem_cons_succ, List.getElem_cons_zero]
  refine wpAnyH_take (i := 13) (v := ?_) rfl (by kernel_rfl) (by kernel_rfl) (by kernel_rfl) (fun _ _ _ h => h) (Or.inl ⟨by rfl, ?_⟩) (by assumption) ?_
  rotate_left
  · intro w hSw; (try dsimp only at hSw); go_simp; try with_reducible rfl
  simp only [Act.put, List.setIfInBounds_toArray, List.set_cons_zero, List.set_cons_succ, List.getElem_toArray, List.getElem_cons_succ, List.getElem_cons_zero]
  refine wpAnyH_take (i := 17) (v := ?_) rfl (by kernel_rfl) (by kernel_rfl) (by kernel_rfl) (fun _ _ _ h => h) (Or.inl ⟨by rfl, ?_⟩) (by assumption) ?_
  rotate_left
  · intro w hSw; (try dsimp only at hSw); go_simp; try with_reducible rfl
  simp only [Act.put, List.setIfInBounds_toArray, List.set_cons_zero, List.set_cons_succ, List.getElem_toArray, List.getElem_cons_succ, List.getElem_cons_zero]
  refine wpAnyH_take (i := 18) (v := ?_) rfl (by kernel_rfl) (by kernel_rfl) (by kernel_rfl) (fun _ _ _ h => h) (Or.inl ⟨by rfl, ?_⟩) (by assumption) ?_
  rotate_left
  · intro w hSw; (try dsimp only at hSw); go_simp; try with_reducible rfl
  simp only [Act.put, List.setIfInBounds_toArray, List.set_cons_zero, List.set_cons_succ, List.getElem_toArray, List.getElem_cons_succ, List.getElem_cons_zero]
  refine wpAnyH_ready (rs := [4]) (by kernel_rfl) (by simp) ?_
  refine AllReadyH.cons rfl (fun K hK => ?_) AllReadyH.nil
  go_simp
  refine (l2Words_any _).mono ?_
  rintro e w1 ⟨rfl, hw1⟩
  obtain ⟨a0, a1, a2, a3⟩ := hHeld
  have hb1 : Below W.drew.heap.size W.drew w1 := by rw [hw1]; exact (Below.refl _ _).alloc (Nat.le_refl _) _
  have t0 : w1.cell? ⟨W.heap.size, q, none⟩ = some (.string (wordAt q)) := by
    rw [hw1]
    have h5 : q = 0 ∨ q = 1 ∨ q = 2 ∨ q = 3 ∨ q = 4 := by omega
    rcases h5 with rfl | rfl | rfl | rfl | rfl <;> simp [go_sem, wordAt]
  clear hw1
  have hS1 : w1.cell? ⟨w.heap.size, 0, none⟩ = some (.string f) ∧ w1.cell? ⟨w.heap.size, 1, none⟩ = some (.int .i64 ((q : Int) + 1)) ∧ w1.cell? ⟨w.heap.size, 2, none⟩ = some (.int .i64 (m : Int)) ∧ w1.cell? ⟨w.heap.size, 3, none⟩ = some (.string v) :=
    ⟨cell_keep hb1 (Nat.le_refl _) a0, cell_keep hb1 (Nat.le_refl _) a1, cell_keep hb1 (Nat.le_refl _) a2, cell_keep hb1 (Nat.le_refl _) a3⟩
  refine hK.out _ _ hS1 (fun _ => ?_)
  refine wpAnyH_more (T := fun w' => (w'.cell? ⟨w.heap.size, 0, none⟩ = some (.string f) ∧ w'.cell? ⟨w.heap.size, 1, none⟩ = some (.int .i64 ((q : Int) + 1)) ∧ w'.cell? ⟨w.heap.size, 2, none⟩ = some (.int .i64 (m : Int)) ∧ w'.cell? ⟨w.heap.size, 3, none⟩ = some (.string v)) ∧ w'.cell? ⟨W.heap.size, q, none⟩ = some (.string (wordAt q))) (fun _ h => h.1) _ _ _ _ ?_
  have hHeld1 := And.intro hS1 t0
  clear hK K
  have HB1 : Hid (Below w.heap.size w w1) := below_step HW.out.drew hb1
  have hq0 : (0 : Int) ≤ (q : Int) := by omega
  have hq1 : (q : Int) < 5 := by omega
  have hwq : IntKind.i64.wrap (q : Int) = (q : Int) := by rw [IntKind.wrap_i64]; omega
  refine wpAnyH_take (i := 8) (v := ?_) rfl (by kernel_rfl) (by kernel_rfl) (by kernel_rfl) (fun _ _ _ h => h) (Or.inl ⟨by rfl, ?_⟩) (by assumption) ?_
  rotate_left
  · intro w hSw; (try dsimp only at hSw); go_simp; try with_reducible rfl
  simp only [Act.put, List.setIfInBounds_toArray, List.set_cons_zero, List.set_cons_succ, List.getElem_toArray, List.getElem_cons_succ, List.getElem_cons_zero]
  refine wpAnyH_take (i := 9) (v := ?_) rfl (by kernel_rfl) (by kernel_rfl) (by kernel_rfl) (fun _ _ _ h => h) (Or.inl ⟨by rfl, ?_⟩) (by assumption) ?_
  rotate_left
  · intro w hSw; (try dsimp only at hSw); go_simp; try with_reducible rfl
  simp only [Act.put, List.setIfInBounds_toArray, List.set_cons_zero, List.set_cons_succ, List.getElem_toArray, List.getElem_cons_succ, List.getElem_cons_zero]
  refine wpAnyH_take (i := 10) (v := ?_) rfl (by kernel_rfl) (by kernel_rfl) (by kernel_rfl) (fun _ _ _ h => h) (Or.inl ⟨by rfl, ?_⟩) (by assumption) ?_
  rotate_left
  · intro w hSw; (try dsimp only at hSw); go_simp; try with_reducible rfl
  simp only [Act.put, List.setIfInBounds_toArray, List.set_cons_zero, List.set_cons_succ, List.getElem_toArray, List.getElem_cons_succ, List.getElem_cons_zero]
  refine wpAnyH_take (i := 11) (v := ?_) rfl (by kernel_rfl) (by kernel_rfl) (by kernel_rfl) (fun _ _ _ h => h) (Or.inl ⟨by rfl, ?_⟩) (by assumption) ?_
  rotate_left
  · intro w hSw; (try dsimp only at hSw); go_simp; try with_reducible rfl
  simp only [Act.put, List.setIfInBounds_toArray, List.set_cons_zero, List.set_cons_succ, List.getElem_toArray, List.getElem_cons_succ, List.getElem_cons_zero]
  refine wpAnyH_ready (rs := [14]) (by kernel_rfl) (by simp) ?_
  refine AllReadyH.cons rfl (fun K hK => ?_) AllReadyH.nil
  go_simp
  refine (l2Dec_any m hm _).mono ?_
  rintro e w2 ⟨rfl, hb2⟩
  refine hK.out _ _ ⟨⟨cell_keep hb2 (Nat.le_refl _) hS1.1, cell_keep hb2 (Nat.le_refl _) hS1.2.1, cell_keep hb2 (Nat.le_refl _) hS1.2.2.1, cell_keep hb2 (Nat.le_refl _) hS1.2.2.2⟩, cell_keep hb2 (Nat.le_refl _) t0⟩ (fun hHeld2 => ?_)
  clear hK K
  refine wpAnyH_take (i := 15) (v := ?_) rfl (by kernel_rfl) (by kernel_rfl) (by kernel_rfl) (fun _ _ _ h => h) (Or.inl ⟨by rfl, ?_⟩) (by assumption) ?_
  rotate_left
  · intro w hSw; (try dsimp only at hSw); go_simp; try with_reducible rfl
  simp only [Act.put, List.setIfInBounds_toArray, List.set_cons_zero, List.set_cons_succ, List.getElem_toArray, List.getElem_cons_succ, List.getElem_cons_zero]
  refine wpAnyH_take (i := 16) (v := ?_) rfl (by kernel_rfl) (by kernel_rfl) (by kernel_rfl) (fun _ _ _ h => h) (Or.inl ⟨by rfl, ?_⟩) (by assumption) ?_
  rotate_left
  · intro w hSw; (try dsimp only at hSw); go_simp; try with_reducible rfl
  simp only [Act.put, List.setIfInBounds_toArray, List.set_cons_zero, List.set_cons_succ, List.getElem_toArray, List.getElem_cons_succ, List.getElem_cons_zero]
  refine wpAnyH_take (i := 19) (v := ?_) rfl (by kernel_rfl) (by kernel_rfl) (by kernel_rfl) (fun _ _ _ h => h) (Or.inl ⟨by rfl, ?_⟩) (by assumption) ?_
  rotate_left
  · intro w hSw; (try dsimp only at hSw); go_simp; try with_reducible rfl
  simp only [Act.put, List.setIfInBounds_toArray, List.set_cons_zero, List.set_cons_succ, List.getElem_toArray, List.getElem_cons_succ, List.getElem_cons_zero]
  refine wpAnyH_take (i := 20) (v := ?_) rfl (by kernel_rfl) (by kernel_rfl) (by kernel_rfl) (fun _ _ _ h => h) (Or.inl ⟨by rfl, ?_⟩) (by assumption) ?_
  rotate_left
  · intro w hSw; (try dsimp only at hSw); go_simp; try with_reducible rfl
  simp only [Act.put, List.setIfInBounds_toArray, List.set_cons_zero, List.set_cons_succ, List.getElem_toArray, List.getElem_cons_succ, List.getElem_cons_zero]
  refine wpAnyH_done (by kernel_rfl) ?_ _
  refine NoPanic.normal ?_
  go_wp2
  go_ret
  exact ⟨rfl, below_step HB1.out hb2⟩
end Go.Proofs.YtibpkhmiahamcaaGreatDoor

/-
  The law FnExactPlanForm answers true at every change.
-/
namespace Go.Proofs.YtibpkhmiahamcaaGreatDoor
open Go.RowKit

set_option maxHeartbeats 1600000 in
theorem specForm_no (c : Chg) (w : World) (hf : c.f.size ≤ 1048576) (hv : c.v.size ≤ 1048576) (hok : formB c = false) :
    Calls Tryz.prog 10 #[.agg #[.string c.f, .int .i64 c.what, .int .i64 c.num, .string c.v]] w fun e w' => e = .returned (.string ⟨#[]⟩) ∧ Below w.heap.size w w' := by
  have hfm : c.f.size ≤ maxLen := by unfold maxLen; omega
  have hvm : c.v.size ≤ maxLen := by unfold maxLen; omega
  obtain ⟨f, what, num, v⟩ := c
  dsimp only at hfm hvm
  simp only [formB] at hok
  clear hf hv
  cases hn : nameB f
  · have HN : Hid (nameB f = false) := hn
    clear hn hok
    go_enter Tryz.func10, Tryz.ntmps10
    go_wp2_with fail
    refine (l1NameOk_any f _ hfm).mono ?_
    rw [HN.out]
    rintro e w1 ⟨rfl, rfl⟩
    go_wp2
    go_ret
    exact ⟨rfl, (Below.refl _ _).alloc (Nat.le_refl _) _⟩
  have HN : Hid (nameB f = true) := hn
  rw [hn] at hok
  clear hn
  cases hu : inB num 1 1000000
  · have HU : Hid (inB num 1 1000000 = false) := hu
    clear hu hok
    go_enter Tryz.func10, Tryz.ntmps10
    go_wp2_with fail
    refine (l1NameOk_any f _ hfm).mono ?_
    rw [HN.out]
    rintro e w1 ⟨rfl, rfl⟩
    go_wp2_with fail
    refine (l1In_any _ _ _ _).mono ?_
    rw [HU.out]
    rintro e w1 ⟨rfl, rfl⟩
    go_wp2
    go_ret
    exact ⟨rfl, (Below.refl _ _).alloc (Nat.le_refl _) _⟩
  have HU : Hid (inB num 1 1000000 = true) := hu
  rw [hu] at hok
  clear hu
  cases hk : inB what 1 5
  · have HK : Hid (inB what 1 5 = false) := hk
    clear hk hok
    go_enter Tryz.func10, Tryz.ntmps10
    go_wp2_with fail
    refine (l1NameOk_any f _ hfm).mono ?_
    rw [HN.out]
    rintro e w1 ⟨rfl, rfl⟩
    go_wp2_with fail
    refine (l1In_any _ _ _ _).mono ?_
    rw [HU.out]
    rintro e w1 ⟨rfl, rfl⟩
    go_wp2_with fail
    refine (l1In_any _ _ _ _).mono ?_
    rw [HK.out]
    rintro e w1 ⟨rfl, rfl⟩
    go_wp2
    go_ret
    exact ⟨rfl, (Below.refl _ _).alloc (Nat.le_refl _) _⟩
  have HK : Hid (inB what 1 5 = true) := hk
  rw [hk] at hok
  clear hk
  have hval : valB v = false := by simpa using hok
  clear hok
  cases hv1 : v.toList.isEmpty
  · have hv2 : oddB v = true := by simpa [valB, hv1] using hval
    have HV : Hid (oddB v = true) := hv2
    clear hv2 hval
    go_enter Tryz.func10, Tryz.ntmps10
    go_wp2_with fail
    refine (l1NameOk_any f _ hfm).mono ?_
    rw [HN.out]
    rintro e w1 ⟨rfl, rfl⟩
    go_wp2_with fail
    refine (l1In_any _ _ _ _).mono ?_
    rw [HU.out]
    rintro e w1 ⟨rfl, rfl⟩
    go_wp2_with fail
    refine (l1In_any _ _ _ _).mono ?_
    rw [HK.out]
    rintro e w1 ⟨rfl, rfl⟩
    go_wp2_with fail
    refine (l2Odd_any v _ hvm).mono ?_
    rw [HV.out]
    rintro e w1 ⟨rfl, rfl⟩
    go_wp2
    go_ret
    exact ⟨rfl, (Below.refl _ _).alloc (Nat.le_refl _) _⟩
  · clear hval
    go_enter Tryz.func10, Tryz.ntmps10
    go_wp2_with fail
    refine (l1NameOk_any f _ hfm).mono ?_
    rw [HN.out]
    rintro e w1 ⟨rfl, rfl⟩
    go_wp2_with fail
    refine (l1In_any _ _ _ _).mono ?_
    rw [HU.out]
    rintro e w1 ⟨rfl, rfl⟩
    go_wp2_with fail
    refine (l1In_any _ _ _ _).mono ?_
    rw [HK.out]
    rintro e w1 ⟨rfl, rfl⟩
    go_wp2
    go_ret
    exact ⟨rfl, (Below.refl _ _).alloc (Nat.le_refl _) _⟩

/-- The form of a change, or the empty text. -/
def theForm (c : Chg) : ByteArray := bif formB c then formS c else ⟨#[]⟩
theorem specForm_any (c : Chg) (w : World) (hf : c.f.size ≤ 1048576) (hv : c.v.size ≤ 1048576) :
    Calls Tryz.prog 10 #[.agg #[.string c.f, .int .i64 c.what, .int .i64 c.num, .string c.v]] w fun e w' => e = .returned (.string (theForm c)) ∧ Below w.heap.size w w' := by
  unfold theForm
  cases h : formB c
  · exact specForm_no c w hf hv h
  · exact specForm_ok c w hf hv h

end Go.Proofs.YtibpkhmiahamcaaGreatDoor
