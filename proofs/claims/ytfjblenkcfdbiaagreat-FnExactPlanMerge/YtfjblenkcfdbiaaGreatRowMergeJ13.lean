/-
  For the proof of merge_holds: part 13 (Shelf, News2, News3).
-/
import Derived.Shelf.Small.Bits
import Derived.Shelf.Small.Strs
import Derived.Shelf.Small.Wraps
import Derived.Shelf.Strconv.Itoa0
import Derived.Shelf.LaysM
import Derived.Shelf.Strconv.Clone
import Derived.Ground.Names2Prog
import Derived.Shelf.Slices.SearchI
import Derived.Test.YtfjblenkcfdbiaaGreatProg
import Derived.Test.YtfjblenkcfdbiaaGreatRowMergeJ12
/-
  DERIVED: THE SHELF's CONTRACTS AT THIS DUMP, IN PLAIN WORDS (tools/lay-plain.mjs out of 'TryzShelf.lean', which tools/lay-shelf.mjs wrote): THE SAME DECLARATIONS UNDER THE SAME NAMES: 'import', 'namespace', 'open', 'def', 'theorem' AND NOTHING ELSE: no command of the shelf's: FOR A HAND-IN. Each laying: the table of numbers ('.._ren') and one theorem, a field a fact of the dump's own or the kernel's comparison; each contract: ONE APPLICATION.
-/
namespace Go.Proofs
open Go.Shelf
def Tryz.lays213_ren : Go.Shelf.Ren := ⟨fun | 213 => 130 | 265 => 142 | n => n, fun | 9 => 9 | 3 => 3 | n => n, fun | n => n⟩
theorem Tryz.lays213 : Go.Proofs.Lays.n213 Tryz.prog Tryz.lays213_ren := {
  mixed := by kernel_rfl
  f213 := Tryz.func130.trans (congrArg some (by kernel_rfl))
  f265 := Tryz.func142.trans (congrArg some (by kernel_rfl))
  t3 := Tryz.underlying3
  a3 := Tryz.isAgg3
  z3 := Tryz.sizeOf3
  v3 := Tryz.zeroValue3
  t9 := Tryz.underlying9
  a9 := Tryz.isAgg9
  z9 := Tryz.sizeOf9
  v9 := Tryz.zeroValue9 }
def Tryz.lays106_ren : Go.Shelf.Ren := ⟨fun | 106 => 125 | 213 => 130 | 265 => 142 | n => n, fun | 9 => 9 | 3 => 3 | n => n, fun | n => n⟩
theorem Tryz.lays106 : Go.Proofs.Lays.n106 Tryz.prog Tryz.lays106_ren := {
  mixed := by kernel_rfl
  f106 := Tryz.func125.trans (congrArg some (by kernel_rfl))
  f213 := Tryz.func130.trans (congrArg some (by kernel_rfl))
  f265 := Tryz.func142.trans (congrArg some (by kernel_rfl))
  t3 := Tryz.underlying3
  a3 := Tryz.isAgg3
  z3 := Tryz.sizeOf3
  v3 := Tryz.zeroValue3
  t9 := Tryz.underlying9
  a9 := Tryz.isAgg9
  z9 := Tryz.sizeOf9
  v9 := Tryz.zeroValue9 }
def Tryz.laysM316_ren : Go.Shelf.Ren := ⟨fun | 316 => 111 | n => n, fun | 9 => 9 | 3 => 3 | 4 => 4 | 37 => 122 | 0 => 0 | 127 => 171 | 5 => 5 | n => n, fun | n => n⟩
theorem Tryz.laysM316 : Go.Proofs.LaysM.n316 Tryz.prog Tryz.laysM316_ren := {
  mixed := by kernel_rfl
  f316 := Tryz.func111.trans (congrArg some (by kernel_rfl))
  t0 := Tryz.underlying0
  a0 := Tryz.isAgg0
  z0 := Tryz.sizeOf0
  v0 := Tryz.zeroValue0
  t3 := Tryz.underlying3
  a3 := Tryz.isAgg3
  z3 := Tryz.sizeOf3
  v3 := Tryz.zeroValue3
  t4 := Tryz.underlying4
  a4 := Tryz.isAgg4
  z4 := Tryz.sizeOf4
  v4 := Tryz.zeroValue4
  t9 := Tryz.underlying9
  a9 := Tryz.isAgg9
  z9 := Tryz.sizeOf9
  v9 := Tryz.zeroValue9
  t37 := Tryz.underlying122
  a37 := Tryz.isAgg122
  z37 := Tryz.sizeOf122
  v37 := Tryz.zeroValue122
  t127 := Tryz.underlying171
  a127 := Tryz.isAgg171
  z127 := Tryz.sizeOf171
  v127 := Tryz.zeroValue171
  t5 := Tryz.underlying5
  a5 := Tryz.isAgg5
  z5 := Tryz.sizeOf5
  v5 := Tryz.zeroValue5
  i0 := by kernel_rfl
  i3 := by kernel_rfl
  i4 := by kernel_rfl
  i5 := by kernel_rfl
  i9 := by kernel_rfl
  i37 := by kernel_rfl
  i127 := by kernel_rfl }
open Go.RowKit in
theorem Tryz.stringslite_Clone (s : ByteArray) (w : World) (hlim : s.size ≤ 281474976710656) :
    Calls Tryz.prog 111 #[.string s] w fun e w' => e = .returned (.string s) ∧ Below w.heap.size w w' := Any.stringslite_Clone Tryz.laysM316 s w hlim
open Go.RowKit in
theorem Tryz.strings_Compare (a b : ByteArray) (w : World) :
    Calls Tryz.prog 125 #[.string a, .string b] w fun e w' => e = .returned (.int .i64 (Lib.compareBytes a.data.toList b.data.toList)) ∧ w' = w := Any.strings_Compare Tryz.lays106 a b w
end Go.Proofs

/-
  impl: keys and their order; what is later; copies of changes.
-/
namespace Go.Proofs.YtfjblenkcfdbiaaGreat
open Go.RowKit
attribute [local go_sem] Later.cell Later.frozen

theorem cmp_lt : ∀ a b : List UInt8, Lib.compareBytes a b = if Op.bytesLess a b then -1 else if a = b then 0 else 1
  | [], [] => rfl
  | [], _ :: _ => rfl
  | _ :: _, [] => rfl
  | a :: x, b :: y => by
    rw [Lib.compareBytes, cmp_lt x y]
    by_cases h : a < b
    · simp [Op.bytesLess, h]
    · by_cases k : b < a
      · have hne : ¬ a = b := fun e => by rw [e] at k; exact UInt8.lt_irrefl b k
        simp [Op.bytesLess, h, k, hne]
      · have e : a = b := UInt8.le_antisymm (UInt8.not_lt.1 k) (UInt8.not_lt.1 h)
        subst e
        simp [Op.bytesLess, h]
/-- What compareKeys answers. -/
def cmpS (a b : ByteArray) : Int := if blS a b then -1 else if a = b then 0 else 1
def cmpN (a b : Int) : Int := if a < b then -1 else if b < a then 1 else 0
def cmpK (a b : Chg) : Int := if cmpS a.f b.f ≠ 0 then cmpS a.f b.f else cmpN a.what b.what
theorem cmpS_eq (a b : ByteArray) : Lib.compareBytes a.data.toList b.data.toList = cmpS a b := by
  rw [cmp_lt]; unfold cmpS blS
  rw [ByteArray.toList_eq, ByteArray.toList_eq]
  have : (a.data.toList = b.data.toList) ↔ a = b := ⟨fun h => bytes_inj h, fun h => by rw [h]⟩
  simp only [this]
theorem cmpK_eq (a b : Chg) : cmpK a b = if keyLt a b then -1 else if keyEq a b then 0 else 1 := by
  unfold cmpK cmpS cmpN keyLt keyEq
  by_cases h : blS a.f b.f = true
  · simp [h]
  · by_cases e : a.f = b.f
    · simp only [e, if_true]
      rw [e] at h
      by_cases h1 : a.what < b.what
      · simp [h, h1]
      · by_cases h2 : b.what < a.what
        · have : ¬ a.what = b.what := by omega
          simp [h, h1, h2, this]
        · have : a.what = b.what := by omega
          simp [h, this]
    · simp [h, e]

theorem strCompare_any (a b : ByteArray) (w : World) : Calls Tryz.prog 125 #[.string a, .string b] w fun e w' => e = .returned (.int .i64 (cmpS a b)) ∧ w' = w := by
  have := Tryz.strings_Compare a b w
  rw [cmpS_eq] at this; exact this
theorem isNaN_any (a : Int) (w : World) : Calls Tryz.prog 131 #[.int .i64 a] w fun e w' => e = .returned (.bool false) ∧ w' = w := by
  have h : (a != a) = false := by simp
  go_enter Tryz.func131, Tryz.ntmps131
  go_wp2
  go_ret
  exact ⟨rfl, rfl⟩
set_option maxHeartbeats 800000 in
theorem cmpCompare_any (a b : Int) (w : World) : Calls Tryz.prog 126 #[.int .i64 a, .int .i64 b] w fun e w' => e = .returned (.int .i64 (cmpN a b)) ∧ w' = w := by
  by_cases h1 : a < b
  · have e : cmpN a b = -1 := if_pos h1
    rw [e]; clear e
    go_enter Tryz.func126, Tryz.ntmps126
    go_wp2_with (go_at_call 131; refine (isNaN_any _ _).mono ?_; rintro e w' ⟨rfl, rfl⟩)
    go_ret
    exact ⟨rfl, rfl⟩
  · by_cases h2 : b < a
    · have e : cmpN a b = 1 := by unfold cmpN; rw [if_neg h1, if_pos h2]
      rw [e]; clear e
      go_enter Tryz.func126, Tryz.ntmps126
      go_wp2_with (go_at_call 131; refine (isNaN_any _ _).mono ?_; rintro e w' ⟨rfl, rfl⟩)
      go_ret
      exact ⟨rfl, rfl⟩
    · have e : cmpN a b = 0 := by unfold cmpN; rw [if_neg h1, if_neg h2]
      rw [e]; clear e
      go_enter Tryz.func126, Tryz.ntmps126
      go_wp2_with (go_at_call 131; refine (isNaN_any _ _).mono ?_; rintro e w' ⟨rfl, rfl⟩)
      go_ret
      exact ⟨rfl, rfl⟩

def orI (a b : Int) : Int := if a ≠ 0 then a else b
set_option maxHeartbeats 1600000 in
theorem cmpOr_any (B : Nat) (a b : Int) (w : World) (h0 : w.cell? ⟨B, 0, none⟩ = some (.int .i64 a)) (h1 : w.cell? ⟨B, 1, none⟩ = some (.int .i64 b)) :
    Calls Tryz.prog 124 #[.slice (some ⟨B, 0, none⟩) 2 2] w fun e w' => e = .returned (.int .i64 (orI a b)) ∧ w' = w := by
  go_enter Tryz.func124, Tryz.ntmps124
  go_wp2
  go_loopw [5, 8] (fun _ i wr => wr = w ∧ (i = .int .i64 0 ∨ (i = .int .i64 1 ∧ a = 0) ∨ (i = .int .i64 2 ∧ a = 0 ∧ b = 0))) (fun _ i _ => 2 - (intOf i).toNat)
  case atStart => exact ⟨rfl, .inl rfl⟩
  case round =>
    obtain ⟨rfl, rfl | ⟨rfl, ha⟩ | ⟨rfl, ha, hb⟩⟩ := hrel
    · by_cases hz : a = 0
      · have hq : (a != 0) = false := by simp [hz]
        have HZ : Hid (a = 0) := hz
        clear hz
        go_wp2
        exact ⟨⟨by trivial, .inr (.inl ⟨by go_num, HZ.out⟩)⟩, by simp [intOf]⟩
      · have hq : (a != 0) = true := by simp [hz]
        have HZ : Hid (¬ a = 0) := hz
        clear hz
        go_wp2
        go_ret
        exact ⟨ret_int (by unfold orI; rw [if_pos HZ.out]), rfl⟩
    · have HA : Hid (a = 0) := ha
      clear ha
      by_cases hz : b = 0
      · have hq : (b != 0) = false := by simp [hz]
        have HZ : Hid (b = 0) := hz
        clear hz
        go_wp2
        exact ⟨⟨by trivial, .inr (.inr ⟨by go_num, HA.out, HZ.out⟩)⟩, by simp [intOf]⟩
      · have hq : (b != 0) = true := by simp [hz]
        have HZ : Hid (¬ b = 0) := hz
        clear hz
        go_wp2
        go_ret
        exact ⟨ret_int (by unfold orI; rw [if_neg (by simp [HA.out])]), rfl⟩
    · have HA : Hid (a = 0 ∧ b = 0) := ⟨ha, hb⟩
      clear ha hb
      go_wp2
      go_ret
      exact ⟨ret_int (by unfold orI; rw [if_neg (by simp [HA.out.1]), HA.out.2]), rfl⟩

theorem gt_bl (a b : ByteArray) : (!Op.bytesLess a.toList b.toList && !a.toList == b.toList) = blS b a := by
  unfold blS
  cases h : Op.bytesLess b.toList a.toList with
  | true =>
    have h1 : Op.bytesLess a.toList b.toList = false := by
      cases h1 : Op.bytesLess a.toList b.toList with
      | false => rfl
      | true => have := bl_trans _ _ _ h h1; rw [bl_irrefl] at this; cases this
    have h2 : (a.toList == b.toList) = false := by
      rw [beq_eq_false_iff_ne]
      intro e; rw [e, bl_irrefl] at h; cases h
    rw [h1, h2]; rfl
  | false =>
    cases h1 : Op.bytesLess a.toList b.toList with
    | true => rfl
    | false =>
      have e := bl_total _ _ h1 h
      rw [e]; simp
theorem keyOf_any (c : Chg) (w : World) : Calls Tryz.prog 71 #[.agg #[.string c.f, .int .i64 c.what, .int .i64 c.num, .string c.v]] w fun e w' => e = .returned (.agg #[.string c.f, .int .i64 c.what]) ∧ Below w.heap.size w w' := by
  go_enter Tryz.func71, Tryz.ntmps71
  go_wp2
  exact bodyPost_ret (v := .agg #[.string c.f, .int .i64 c.what]) (by simp [results, Tryz.results71, go_sem]) rfl ⟨rfl, ((Below.refl _ _).alloc (Nat.le_refl _) _).alloc (by simp) _⟩
theorem fieldOf_any (c : Chg) (w : World) : Calls Tryz.prog 45 #[.agg #[.string c.f, .int .i64 c.what, .int .i64 c.num, .string c.v]] w fun e w' => e = .returned (.agg #[.int .i64 c.what, .int .i64 c.num, .string c.v]) ∧ Below w.heap.size w w' := by
  go_enter Tryz.func45, Tryz.ntmps45
  go_wp2
  exact bodyPost_ret (v := .agg #[.int .i64 c.what, .int .i64 c.num, .string c.v]) (by simp [results, Tryz.results45, go_sem]) rfl ⟨rfl, ((Below.refl _ _).alloc (Nat.le_refl _) _).alloc (by simp) _⟩
set_option maxHeartbeats 800000 in
theorem later_any (x y : Chg) (w : World) : Calls Tryz.prog 46 #[.agg #[.int .i64 x.what, .int .i64 x.num, .string x.v], .agg #[.int .i64 y.what, .int .i64 y.num, .string y.v]] w fun e w' => e = .returned (.bool (latC x y)) ∧ Below w.heap.size w w' := by
  have HB : Hid (∀ o o' : Obj, Below w.heap.size w ((w.alloc o).alloc o')) := fun o o' => ((Below.refl _ _).alloc (Nat.le_refl _) _).alloc (by simp) _
  by_cases h : x.num = y.num
  · have e : latC x y = blS y.v x.v := by unfold latC; rw [if_pos h]
    have hq : (x.num != y.num) = false := by simp [h]
    rw [e]; clear e h
    go_enter Tryz.func46, Tryz.ntmps46
    go_wp2
    go_ret
    exact ⟨ret_bool (gt_bl _ _), HB.out _ _⟩
  · have e : latC x y = decide (y.num < x.num) := by unfold latC; rw [if_neg h]
    have hq : (x.num != y.num) = true := by simp [h]
    rw [e]; clear e h
    go_enter Tryz.func46, Tryz.ntmps46
    go_wp2
    go_ret
    exact ⟨rfl, HB.out _ _⟩
set_option maxHeartbeats 800000 in
theorem l3Later_any (x y : Chg) (w : World) : Calls Tryz.prog 85 #[.agg #[.int .i64 x.what, .int .i64 x.num, .string x.v], .agg #[.int .i64 y.what, .int .i64 y.num, .string y.v]] w fun e w' => e = .returned (.bool (latC x y)) ∧ Below w.heap.size w w' := by
  have HB : Hid (∀ o o' : Obj, Below w.heap.size w ((w.alloc o).alloc o')) := fun o o' => ((Below.refl _ _).alloc (Nat.le_refl _) _).alloc (by simp) _
  by_cases h : x.num = y.num
  · have e : latC x y = blS y.v x.v := by unfold latC; rw [if_pos h]
    have hq : (x.num != y.num) = false := by simp [h]
    rw [e]; clear e h
    go_enter Tryz.func85, Tryz.ntmps85
    go_wp2
    go_ret
    exact ⟨ret_bool (gt_bl _ _), HB.out _ _⟩
  · have e : latC x y = decide (y.num < x.num) := by unfold latC; rw [if_neg h]
    have hq : (x.num != y.num) = true := by simp [h]
    rw [e]; clear e h
    go_enter Tryz.func85, Tryz.ntmps85
    go_wp2
    go_ret
    exact ⟨rfl, HB.out _ _⟩
theorem clone_any (s : ByteArray) (w : World) (hs : s.size ≤ 1048576) :
    Calls Tryz.prog 88 #[.string s] w fun e w' => e = .returned (.string s) ∧ Below w.heap.size w w' := by
  go_enter Tryz.func88, Tryz.ntmps88
  go_wp2_with fail
  refine (Tryz.stringslite_Clone s _ (by omega)).mono ?_
  rintro e w' ⟨rfl, hb⟩
  go_wp2
  go_ret
  exact ⟨rfl, hb⟩

set_option maxHeartbeats 1600000 in
theorem compareKeys_any (a b : Chg) (w : World) : Calls Tryz.prog 110 #[.agg #[.string a.f, .int .i64 a.what], .agg #[.string b.f, .int .i64 b.what]] w fun e w' => e = .returned (.int .i64 (cmpK a b)) ∧ Below w.heap.size w w' := by
  have HK : Hid (cmpK a b = orI (cmpS a.f b.f) (cmpN a.what b.what)) := rfl
  have HX0 : Hid (OwnAt w ((w.alloc (.cells #[.string a.f, .int .i64 a.what] 106)).alloc (.cells #[.string b.f, .int .i64 b.what] 106)) [[.string a.f, .int .i64 a.what], [.string b.f, .int .i64 b.what]]) := ((OwnAt.start w).push rfl _ _).push (by simp) _ _
  go_enter Tryz.func110, Tryz.ntmps110
  go_wp2
  generalize (w.alloc (.cells #[.string a.f, .int .i64 a.what] 106)).alloc (.cells #[.string b.f, .int .i64 b.what] 106) = w1 at *
  go_region_held3 (fun w' => (w'.cell? ⟨w.heap.size, 0, none⟩ = some (.string a.f) ∧ w'.cell? ⟨w.heap.size, 1, none⟩ = some (.int .i64 a.what) ∧ w'.cell? ⟨w.heap.size + 1, 0, none⟩ = some (.string b.f) ∧ w'.cell? ⟨w.heap.size + 1, 1, none⟩ = some (.int .i64 b.what)) ∧ OwnAt w w' [[.string a.f, .int .i64 a.what], [.string b.f, .int .i64 b.what]])
    (first | (have ha := HX0.out.call (Below.refl _ w1).drew; exact ⟨⟨(ha.has 0 _ rfl 0 _ rfl).1, (ha.has 0 _ rfl 1 _ rfl).1, (ha.has 1 _ rfl 0 _ rfl).1, (ha.has 1 _ rfl 1 _ rfl).1⟩, ha⟩) | (have ha := HX0.out.call ((Below.refl _ w1).alloc (Nat.le_refl _) (.cells #[.int .i64 (cmpS a.f b.f), .int .i64 (cmpN a.what b.what)] 3)).drew; exact ⟨⟨(ha.has 0 _ rfl 0 _ rfl).1, (ha.has 0 _ rfl 1 _ rfl).1, (ha.has 1 _ rfl 0 _ rfl).1, (ha.has 1 _ rfl 1 _ rfl).1⟩, ha⟩) | (exact ‹_ ∧ OwnAt w _ _›))
    (first | (go_at_call 125; refine (strCompare_any _ _ _).mono ?_; rintro e w3 ⟨rfl, rfl⟩) | (go_at_call 126; refine (cmpCompare_any _ _ _).mono ?_; rintro e w3 ⟨rfl, rfl⟩) | (go_at_call 124; refine (cmpOr_any w1.heap.size (cmpS a.f b.f) (cmpN a.what b.what) _ (by simp [go_sem]) (by simp [go_sem])).mono ?_; rintro e w3 ⟨rfl, rfl⟩))
  all_goals go_wp2
  all_goals go_ret
  all_goals exact ⟨ret_int HK.out.symm, (‹_ ∧ OwnAt w _ _›).2.below⟩

/-- Which list has the next thing. -/
def nextC : List Chg → List Chg → Int
  | [], _ => 1
  | _ :: _, [] => -1
  | a :: _, b :: _ => cmpK a b
set_option maxHeartbeats 1600000 in
theorem compareNext_any (v u : Value) (A B : List Chg) (w : World) (hv : ChgsAt w v A) (hu : ChgsAt w u B) :
    Calls Tryz.prog 87 #[v, u] w fun e w' => e = .returned (.int .i64 (nextC A B)) ∧ Below w.heap.size w w' := by
  obtain ⟨av, cv, rfl, hlc, hcm, hc⟩ := hv
  obtain ⟨au, cu, rfl, hlc', hcm', hc'⟩ := hu
  unfold maxLen at hcm hcm'
  cases A with
  | nil =>
    have e : nextC [] B = 1 := by cases B <;> rfl
    rw [e]; clear e
    go_enter Tryz.func87, Tryz.ntmps87
    go_wp2
    go_ret
    exact ⟨rfl, Below.refl _ _⟩
  | cons a A =>
    have hz : ((((a :: A).length : Nat) : Int) == 0) = false := by rw [beq_eq_false_iff_ne, List.length_cons]; omega
    have hz1 : (0 : Int) < (((a :: A).length : Nat) : Int) := by rw [List.length_cons]; omega
    have hz2 : 0 < (a :: A).length := by simp
    obtain ⟨b0, o0, rfl, d0, d1, d2, d3⟩ := hc 0 a rfl
    simp only [Nat.zero_mul, Nat.add_zero] at d0 d1 d2 d3
    generalize hla : (a :: A).length = la at *
    clear hla hc
    cases B with
    | nil =>
      have e : nextC (a :: A) [] = -1 := rfl
      rw [e]; clear e
      go_enter Tryz.func87, Tryz.ntmps87
      go_wp2
      go_ret
      exact ⟨rfl, Below.refl _ _⟩
    | cons b B =>
      have hy : ((((b :: B).length : Nat) : Int) == 0) = false := by rw [beq_eq_false_iff_ne, List.length_cons]; omega
      have hy1 : (0 : Int) < (((b :: B).length : Nat) : Int) := by rw [List.length_cons]; omega
      have hy2 : 0 < (b :: B).length := by simp
      have e : nextC (a :: A) (b :: B) = cmpK a b := rfl
      rw [e]; clear e
      obtain ⟨b1, o1, rfl, e0, e1, e2, e3⟩ := hc' 0 b rfl
      simp only [Nat.zero_mul, Nat.add_zero] at e0 e1 e2 e3
      generalize hlb : (b :: B).length = lb at *
      clear hlb hc'
      have z0 : b0 < w.heap.size := lt_of_cell d0
      have z1 : b1 < w.heap.size := lt_of_cell e0
      have hne := Later.some w
      have GK : Hid (∀ (c : Chg) (y : Later w), Calls Tryz.prog 71 #[.agg #[.string c.f, .int .i64 c.what, .int .i64 c.num, .string c.v]] y.val fun e w'' => e = .returned (.agg #[.string c.f, .int .i64 c.what]) ∧ ∃ z : Later w, w'' = z.val) := fun c y => Calls.later (keyOf_any c y.val)
      have GC : Hid (∀ (y : Later w), Calls Tryz.prog 110 #[.agg #[.string a.f, .int .i64 a.what], .agg #[.string b.f, .int .i64 b.what]] y.val fun e w'' => e = .returned (.int .i64 (cmpK a b)) ∧ ∃ z : Later w, w'' = z.val) := fun y => Calls.later (compareKeys_any a b y.val)
      go_enter Tryz.func87, Tryz.ntmps87
      go_wp2
      refine wp_region_later (by kernel_rfl) (by kernel_rfl) ?_
      repeat (go_big_quiet_step (first | (go_at_call 71; exact GK.out _ _) | (go_at_call 110; exact GC.out _)))
      refine wpQuiet_nil ?_
      rintro _ ⟨x, rfl⟩
      go_wp2
      go_ret
      exact ⟨rfl, x.below⟩
end Go.Proofs.YtfjblenkcfdbiaaGreat

/-
  impl: a copy of a change.
-/
namespace Go.Proofs.YtfjblenkcfdbiaaGreat
open Go.RowKit

set_option maxHeartbeats 1600000 in
theorem copyChange_any (c : Chg) (w : World) (hf : c.f.size ≤ 1048576) (hv : c.v.size ≤ 1048576) :
    Calls Tryz.prog 47 #[.agg #[.string c.f, .int .i64 c.what, .int .i64 c.num, .string c.v]] w fun e w' => e = .returned (.agg #[.string c.f, .int .i64 c.what, .int .i64 c.num, .string c.v]) ∧ Below w.heap.size w w' := by
  obtain ⟨f, what, num, v⟩ := c
  dsimp only at *
  have HO0 : Hid (OwnAt w ((w.alloc (.cells #[.string f, .int .i64 what, .int .i64 num, .string v] 43)).alloc (.cells #[.string ⟨#[]⟩, .int .i64 0, .int .i64 0, .string ⟨#[]⟩] 43)) [[.string f, .int .i64 what, .int .i64 num, .string v], [.string ⟨#[]⟩, .int .i64 0, .int .i64 0, .string ⟨#[]⟩]]) := ((OwnAt.start w).push rfl _ _).push (by simp) _ _
  go_enter Tryz.func47, Tryz.ntmps47
  go_wp2_with fail
  refine (clone_any f _ hf).mono ?_
  rintro e w1 ⟨rfl, hb1⟩
  have HO1 : Hid (OwnAt w w1 [[.string f, .int .i64 what, .int .i64 num, .string v], [.string ⟨#[]⟩, .int .i64 0, .int .i64 0, .string ⟨#[]⟩]]) := HO0.out.call hb1
  have HO2 : Hid (OwnAt w (w1.setCell ⟨w.heap.size, 0, none⟩ (.string f)) [[.string f, .int .i64 what, .int .i64 num, .string v], [.string ⟨#[]⟩, .int .i64 0, .int .i64 0, .string ⟨#[]⟩]]) := HO1.out.set (i := 0) (j := 0) rfl (by simp) _
  have c0 : w1.cell? ⟨w.heap.size, 0, none⟩ = some (.string f) := (HO1.out.has 0 _ rfl 0 _ rfl).1
  have c1 : w1.cell? ⟨w.heap.size, 1, none⟩ = some (.int .i64 what) := (HO1.out.has 0 _ rfl 1 _ rfl).1
  have c2 : w1.cell? ⟨w.heap.size, 2, none⟩ = some (.int .i64 num) := (HO1.out.has 0 _ rfl 2 _ rfl).1
  have c3 : w1.cell? ⟨w.heap.size, 3, none⟩ = some (.string v) := (HO1.out.has 0 _ rfl 3 _ rfl).1
  have f0 : w1.frozen? ⟨w.heap.size, 0, none⟩ = false := (HO1.out.has 0 _ rfl 0 _ rfl).2
  clear HO0 hb1
  go_wp2_with fail
  refine (clone_any v _ hv).mono ?_
  rintro e w2 ⟨rfl, hb2⟩
  have HO3 : Hid (OwnAt w w2 [[.string f, .int .i64 what, .int .i64 num, .string v], [.string ⟨#[]⟩, .int .i64 0, .int .i64 0, .string ⟨#[]⟩]]) := HO2.out.call hb2
  clear HO1 HO2 hb2 c0 c1 c2 c3 f0
  have c0 : w2.cell? ⟨w.heap.size, 0, none⟩ = some (.string f) := (HO3.out.has 0 _ rfl 0 _ rfl).1
  have c1 : w2.cell? ⟨w.heap.size, 1, none⟩ = some (.int .i64 what) := (HO3.out.has 0 _ rfl 1 _ rfl).1
  have c2 : w2.cell? ⟨w.heap.size, 2, none⟩ = some (.int .i64 num) := (HO3.out.has 0 _ rfl 2 _ rfl).1
  have c3 : w2.cell? ⟨w.heap.size, 3, none⟩ = some (.string v) := (HO3.out.has 0 _ rfl 3 _ rfl).1
  have f3 : w2.frozen? ⟨w.heap.size, 3, none⟩ = false := (HO3.out.has 0 _ rfl 3 _ rfl).2
  have r0 : w2.cell? ⟨w.heap.size + 1, 0, none⟩ = some (.string ⟨#[]⟩) := (HO3.out.has 1 _ rfl 0 _ rfl).1
  have r1 : w2.cell? ⟨w.heap.size + 1, 1, none⟩ = some (.int .i64 0) := (HO3.out.has 1 _ rfl 1 _ rfl).1
  have r2 : w2.cell? ⟨w.heap.size + 1, 2, none⟩ = some (.int .i64 0) := (HO3.out.has 1 _ rfl 2 _ rfl).1
  have r3 : w2.cell? ⟨w.heap.size + 1, 3, none⟩ = some (.string ⟨#[]⟩) := (HO3.out.has 1 _ rfl 3 _ rfl).1
  have g0 : w2.frozen? ⟨w.heap.size + 1, 0, none⟩ = false := (HO3.out.has 1 _ rfl 0 _ rfl).2
  have g1 : w2.frozen? ⟨w.heap.size + 1, 1, none⟩ = false := (HO3.out.has 1 _ rfl 1 _ rfl).2
  have g2 : w2.frozen? ⟨w.heap.size + 1, 2, none⟩ = false := (HO3.out.has 1 _ rfl 2 _ rfl).2
  have g3 : w2.frozen? ⟨w.heap.size + 1, 3, none⟩ = false := (HO3.out.has 1 _ rfl 3 _ rfl).2
  go_wp2
  refine bodyPost_ret (v := .agg #[.string f, .int .i64 what, .int .i64 num, .string v]) (by simp [results, Tryz.results47, go_sem, *]) rfl ⟨rfl, ?_⟩
  exact below_set (below_set (below_set (below_set (below_set HO3.out.below _ _ (by omega) _) _ _ (by omega) _) _ _ (by omega) _) _ _ (by omega) _) _ _ (by omega) _
theorem sideBySide_any (a b : Value) (w : World) (ha : ∃ x n c, a = .slice x n c) (hb : ∃ x n c, b = .slice x n c) :
    Calls Tryz.prog 44 #[a, b] w fun e w' => e = .returned (.func (.func 86) #[] #[.pointer (some ⟨w.heap.size, 0, none⟩), .pointer (some ⟨w.heap.size + 1, 0, none⟩)]) ∧ w' = (w.alloc (.cells #[a] 50)).alloc (.cells #[b] 50) := by
  obtain ⟨x, n, c, rfl⟩ := ha
  obtain ⟨x', n', c', rfl⟩ := hb
  go_enter Tryz.func44, Tryz.ntmps44
  go_wp2
  go_ret
  exact ⟨rfl, rfl⟩
end Go.Proofs.YtfjblenkcfdbiaaGreat
