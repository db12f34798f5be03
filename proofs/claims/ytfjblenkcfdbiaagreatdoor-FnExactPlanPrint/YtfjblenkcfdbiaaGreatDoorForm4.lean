
/-
  impl: PlanForm.
-/
import Derived.Test.YtfjblenkcfdbiaaGreatDoorForm3
namespace Go.Proofs.YtfjblenkcfdbiaaGreatDoor
open Go.RowKit
attribute [local go_sem] Later.cell Later.frozen

/-- One text behind the other. -/
def cat (a b : ByteArray) : ByteArray := a ++ b
theorem cat_size (a b : ByteArray) : (cat a b).size = a.size + b.size := by unfold cat; exact ByteArray.size_append
/-- Far from the greatest size. -/
def Small (s : ByteArray) : Prop := s.size ≤ 4611686018427387903
theorem add_small (P : Program) (a b : ByteArray) (w : World) (ha : Small a) (hb : Small b) : (Op.stringOp .add a b).run P w = .ok (.string (cat a b)) w := by
  unfold Small at ha hb
  exact run_string_add_sum w a b (by omega)

theorem grow_below (w : World) (k : Nat) (os : Array Obj) : Below w.heap.size w (Sort.grow (w.drewN k) os) :=
  ⟨rfl, rfl, rfl, by simp [Sort.grow], fun i hi => by simp [Sort.grow, Array.getElem?_append_left hi]⟩
theorem itoa_any (n : Int) (h0 : 0 ≤ n) (h1 : n ≤ 9223372036854775807) (w : World) (ht : Lib.TabIs Tryz.prog w "internal/strconv.uint64pow10" .u64 Lib.pow10Tab) :
    Calls Tryz.prog 56 #[.int .i64 n] w fun e w' => e = .returned (.string (decS n.toNat)) ∧ Below w.heap.size w w' := by
  refine (Tryz.strconv_Itoa n (by omega) h1 w ht).mono ?_
  rintro e w' ⟨rfl, k, os, rfl⟩
  refine ⟨ret_str ?_, grow_below w k os⟩
  obtain ⟨m, rfl⟩ := Int.eq_ofNat_of_zero_le h0
  rw [Lib.itoa_nonneg, Int.toNat_natCast]; rfl
theorem gPow : Tryz.prog.globalNamed "internal/strconv.uint64pow10" = some 2 := by kernel_rfl
theorem tab_keep {w w' : World} (h : Lib.TabIs Tryz.prog w "internal/strconv.uint64pow10" .u64 Lib.pow10Tab) (hb : Below w.heap.size w w') : Lib.TabIs Tryz.prog w' "internal/strconv.uint64pow10" .u64 Lib.pow10Tab := by
  have hc := h.cell gPow 0 (by decide)
  exact var?_below hb gPow (lt_of_cell hc) h

def sSet : ByteArray := ⟨#[115, 101, 116, 32]⟩
def sSp : ByteArray := ⟨#[32]⟩

/-- It has a form. -/
def formB (c : Chg) : Bool := inB c.what 1 5 && (nameB c.f && (inB c.num 1 1000000 && valB c.v))
/-- The form. -/
def formS (c : Chg) : ByteArray := cat (cat (cat (cat (cat (cat (cat sSet c.f) sSp) (wordS c.what)) sSp) (decS c.num.toNat)) sSp) c.v

structure Smalls (c : Chg) : Prop where
  s0 : Small sSet
  s1 : Small c.f
  s2 : Small (cat sSet c.f)
  s3 : Small sSp
  s4 : Small (cat (cat sSet c.f) sSp)
  s5 : Small (wordS c.what)
  s6 : Small (cat (cat (cat sSet c.f) sSp) (wordS c.what))
  s7 : Small (cat (cat (cat (cat sSet c.f) sSp) (wordS c.what)) sSp)
  s8 : Small (decS c.num.toNat)
  s9 : Small (cat (cat (cat (cat (cat sSet c.f) sSp) (wordS c.what)) sSp) (decS c.num.toNat))
  sA : Small (cat (cat (cat (cat (cat (cat sSet c.f) sSp) (wordS c.what)) sSp) (decS c.num.toNat)) sSp)
  sB : Small c.v
theorem word_le (k : Nat) : (wordAt k).size ≤ 5 := by
  match k with
  | 0 | 1 | 2 | 3 | 4 => decide
  | k + 5 => exact Nat.zero_le _
theorem wordS_le (what : Int) : (wordS what).size ≤ 5 := by
  unfold wordS; split
  · exact word_le _
  · exact Nat.zero_le _
theorem Smalls.of (c : Chg) (hf : c.f.size ≤ 1048576) (hv : c.v.size ≤ 1048576) (hn : inB c.num 1 1000000 = true) : Smalls c := by
  have h1 : sSet.size = 4 := rfl
  have h2 : sSp.size = 1 := rfl
  have h3 := wordS_le c.what
  have h4 := decS_size c.num.toNat (by simp [inB] at hn; omega)
  constructor <;> unfold Small <;> (try simp only [cat_size]) <;> omega

set_option maxHeartbeats 1600000 in
theorem planForm_any (c : Chg) (w : World) (hs : SaidIn w) (ht : Lib.TabIs Tryz.prog w "internal/strconv.uint64pow10" .u64 Lib.pow10Tab) (hf : c.f.size ≤ 1048576) (hv : c.v.size ≤ 1048576) :
    Calls Tryz.prog 26 #[.agg #[.string c.f, .int .i64 c.what, .int .i64 c.num, .string c.v]] w fun e w' => e = .returned (.string (bif formB c then formS c else ⟨#[]⟩)) ∧ Below w.heap.size w w' := by
  have hfm : c.f.size ≤ maxLen := by unfold maxLen; omega
  have HS : Hid (SaidIn w) := hs
  have HT : Hid (Lib.TabIs Tryz.prog w "internal/strconv.uint64pow10" .u64 Lib.pow10Tab) := ht
  have HSM : Hid (inB c.num 1 1000000 = true → Smalls c) := Smalls.of c hf hv
  clear hs ht hf hv
  obtain ⟨f, what, num, v⟩ := c
  dsimp only at hfm ⊢
  cases hk : inB what 1 5
  · have e : (bif formB ⟨f, what, num, v⟩ then formS ⟨f, what, num, v⟩ else ⟨#[]⟩) = ⟨#[]⟩ := by simp [formB, hk]
    have HK : Hid (inB what 1 5 = false) := hk
    rw [e]; clear e hk
    go_enter Tryz.func26, Tryz.ntmps26
    go_wp2_with fail
    refine (wordOf_any _ _ (HS.out.keep ((Below.refl _ _).alloc (Nat.le_refl _) _))).mono ?_
    rw [HK.out]
    rintro e w1 ⟨rfl, hb1⟩
    go_wp2
    go_ret
    exact ⟨rfl, below_step ((Below.refl _ _).alloc (Nat.le_refl _) _) hb1⟩
  have HK : Hid (inB what 1 5 = true) := hk
  clear hk
  cases hn : nameB f
  · have e : (bif formB ⟨f, what, num, v⟩ then formS ⟨f, what, num, v⟩ else ⟨#[]⟩) = ⟨#[]⟩ := by simp [formB, hn]
    have HN : Hid (nameB f = false) := hn
    rw [e]; clear e hn
    go_enter Tryz.func26, Tryz.ntmps26
    go_wp2_with fail
    refine (wordOf_any _ _ (HS.out.keep ((Below.refl _ _).alloc (Nat.le_refl _) _))).mono ?_
    rw [HK.out]
    rintro e w1 ⟨rfl, hb1⟩
    have c0 : w1.cell? ⟨w.heap.size, 0, none⟩ = some (.string f) := cell_keep hb1 (Nat.le_refl _) (by simp [go_sem])
    have hbw := below_step ((Below.refl _ _).alloc (Nat.le_refl _) _) hb1
    go_wp2_with fail
    refine (nameOk_any f _ hfm).mono ?_
    rw [HN.out]
    rintro e w2 ⟨rfl, hb2⟩
    go_wp2
    go_ret
    exact ⟨rfl, below_step hbw hb2⟩
  have HN : Hid (nameB f = true) := hn
  clear hn
  cases hu : inB num 1 1000000
  · have e : (bif formB ⟨f, what, num, v⟩ then formS ⟨f, what, num, v⟩ else ⟨#[]⟩) = ⟨#[]⟩ := by simp [formB, hu]
    have HU : Hid (inB num 1 1000000 = false) := hu
    rw [e]; clear e hu
    go_enter Tryz.func26, Tryz.ntmps26
    go_wp2_with fail
    refine (wordOf_any _ _ (HS.out.keep ((Below.refl _ _).alloc (Nat.le_refl _) _))).mono ?_
    rw [HK.out]
    rintro e w1 ⟨rfl, hb1⟩
    have c0 : w1.cell? ⟨w.heap.size, 0, none⟩ = some (.string f) := cell_keep hb1 (Nat.le_refl _) (by simp [go_sem])
    have c2 : w1.cell? ⟨w.heap.size, 2, none⟩ = some (.int .i64 num) := cell_keep hb1 (Nat.le_refl _) (by simp [go_sem])
    have hbw := below_step ((Below.refl _ _).alloc (Nat.le_refl _) _) hb1
    go_wp2_with fail
    refine (nameOk_any f _ hfm).mono ?_
    rw [HN.out]
    rintro e w2 ⟨rfl, hb2⟩
    have d0 := cell_keep hb2 (Nat.le_refl _) c0
    have d2 := cell_keep hb2 (Nat.le_refl _) c2
    go_wp2_with fail
    refine (numberOk_any _ _).mono ?_
    rw [HU.out]
    rintro e w3 ⟨rfl, rfl⟩
    go_wp2
    go_ret
    exact ⟨rfl, below_step hbw hb2⟩
  have SM := HSM.out hu
  have HU : Hid (inB num 1 1000000 = true) := hu
  have hn0 : 0 ≤ num := by simp [inB] at hu; omega
  have hn1 : num ≤ 9223372036854775807 := by simp [inB] at hu; omega
  clear hu
  cases hval : valB v
  · have e : (bif formB ⟨f, what, num, v⟩ then formS ⟨f, what, num, v⟩ else ⟨#[]⟩) = ⟨#[]⟩ := by simp [formB, hval]
    have HV : Hid (valB v = false) := hval
    rw [e]; clear e hval
    go_enter Tryz.func26, Tryz.ntmps26
    go_wp2_with fail
    refine (wordOf_any _ _ (HS.out.keep ((Below.refl _ _).alloc (Nat.le_refl _) _))).mono ?_
    rw [HK.out]
    rintro e w1 ⟨rfl, hb1⟩
    have c0 : w1.cell? ⟨w.heap.size, 0, none⟩ = some (.string f) := cell_keep hb1 (Nat.le_refl _) (by simp [go_sem])
    have c2 : w1.cell? ⟨w.heap.size, 2, none⟩ = some (.int .i64 num) := cell_keep hb1 (Nat.le_refl _) (by simp [go_sem])
    have c3 : w1.cell? ⟨w.heap.size, 3, none⟩ = some (.string v) := cell_keep hb1 (Nat.le_refl _) (by simp [go_sem])
    have hbw := below_step ((Below.refl _ _).alloc (Nat.le_refl _) _) hb1
    go_wp2_with fail
    refine (nameOk_any f _ hfm).mono ?_
    rw [HN.out]
    rintro e w2 ⟨rfl, hb2⟩
    have d0 := cell_keep hb2 (Nat.le_refl _) c0
    have d2 := cell_keep hb2 (Nat.le_refl _) c2
    have d3 := cell_keep hb2 (Nat.le_refl _) c3
    go_wp2_with fail
    refine (numberOk_any _ _).mono ?_
    rw [HU.out]
    rintro e w3 ⟨rfl, rfl⟩
    go_wp2_with fail
    refine (valueHasForm_any _ _).mono ?_
    rw [HV.out]
    rintro e w3 ⟨rfl, rfl⟩
    go_wp2
    go_ret
    exact ⟨rfl, below_step hbw hb2⟩
  · have e : (bif formB ⟨f, what, num, v⟩ then formS ⟨f, what, num, v⟩ else ⟨#[]⟩) = formS ⟨f, what, num, v⟩ := by simp [formB, hval, HK.out, HN.out, HU.out]
    have HV : Hid (valB v = true) := hval
    rw [e]; clear e hval
    have hadd := add_small Tryz.prog
    obtain ⟨s0, s1, s2, s3, s4, s5, s6, s7, s8, s9, sA, sB⟩ := SM
    dsimp only at s1 s2 s4 s5 s6 s7 s8 s9 sA sB
    have HF : Hid (formS ⟨f, what, num, v⟩ = cat (cat (cat (cat (cat (cat (cat sSet f) sSp) (wordS what)) sSp) (decS num.toNat)) sSp) v) := rfl
    go_enter Tryz.func26, Tryz.ntmps26
    go_wp2_with fail
    refine (wordOf_any _ _ (HS.out.keep ((Below.refl _ _).alloc (Nat.le_refl _) _))).mono ?_
    rw [HK.out]
    rintro e w1 ⟨rfl, hb1⟩
    have c0 : w1.cell? ⟨w.heap.size, 0, none⟩ = some (.string f) := cell_keep hb1 (Nat.le_refl _) (by simp [go_sem])
    have c2 : w1.cell? ⟨w.heap.size, 2, none⟩ = some (.int .i64 num) := cell_keep hb1 (Nat.le_refl _) (by simp [go_sem])
    have c3 : w1.cell? ⟨w.heap.size, 3, none⟩ = some (.string v) := cell_keep hb1 (Nat.le_refl _) (by simp [go_sem])
    have hbw := below_step ((Below.refl _ _).alloc (Nat.le_refl _) _) hb1
    go_wp2_with fail
    refine (nameOk_any f _ hfm).mono ?_
    rw [HN.out]
    rintro e w2 ⟨rfl, hb2⟩
    have d0 := cell_keep hb2 (Nat.le_refl _) c0
    have d2 := cell_keep hb2 (Nat.le_refl _) c2
    have d3 := cell_keep hb2 (Nat.le_refl _) c3
    have hbl : w.heap.size < w2.heap.size := lt_of_cell d0
    have HB2 : Hid (Below w.heap.size w w2) := below_step hbw hb2
    clear c0 c2 c3 hb1 hb2 hbw
    go_wp2_with fail
    refine (numberOk_any _ _).mono ?_
    rw [HU.out]
    rintro e w3 ⟨rfl, rfl⟩
    go_wp2_with fail
    refine (valueHasForm_any _ _).mono ?_
    rw [HV.out]
    rintro e w3 ⟨rfl, rfl⟩
    go_wp2
    have hne := Later.some w3
    have GO : Hid (∀ x : Later w3, Calls Tryz.prog 56 #[.int .i64 num] x.val fun e w'' => e = .returned (.string (decS num.toNat)) ∧ ∃ y : Later w3, w'' = y.val) :=
      fun x => Calls.later (itoa_any num hn0 hn1 x.val (tab_keep HT.out (below_step HB2.out x.below)))
    simp only [sSet, sSp] at s0 s2 s3 s4 s6 s7 s9 sA
    refine wp_region_later (by kernel_rfl) (by kernel_rfl) ?_
    repeat (go_big_quiet_step (exact GO.out _))
    refine wpQuiet_nil ?_
    rintro _ ⟨x, rfl⟩
    go_wp2
    go_ret
    exact ⟨rfl, below_step HB2.out x.below⟩
end Go.Proofs.YtfjblenkcfdbiaaGreatDoor
